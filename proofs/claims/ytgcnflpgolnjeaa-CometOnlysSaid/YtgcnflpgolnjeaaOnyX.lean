/- What the functions answer that the laws call, one after another (OnyX). -/
import Derived.Test.YtgcnflpgolnjeaaB0
import Derived.Test.YtgcnflpgolnjeaaB7
import Derived.Test.YtgcnflpgolnjeaaTh
import Derived.Test.YtgcnflpgolnjeaaB10
import Derived.Test.YtgcnflpgolnjeaaBst
import Derived.Test.YtgcnflpgolnjeaaMst
import Derived.Test.YtgcnflpgolnjeaaBso
import Derived.Test.YtgcnflpgolnjeaaPth
import Derived.Test.YtgcnflpgolnjeaaKnd
import Derived.Test.YtgcnflpgolnjeaaChk
import Derived.Test.YtgcnflpgolnjeaaThr
import Derived.Test.YtgcnflpgolnjeaaLst
import Derived.Test.YtgcnflpgolnjeaaExa
import Derived.Test.YtgcnflpgolnjeaaWk
import GoSem.Step
import Derived.KernelRfl
import Derived.Laws.World
import Derived.Laws.Sem
import Derived.Laws.Cells
import Derived.Laws.IdiomCopy
import Derived.Maps.RangeRun
import Derived.Laws.NewFold
import Derived.RangeFuncLeaves
import Derived.LoopNIn
import Derived.RangeFuncRecord
import Derived.OrdersIn
import Derived.ChangeSame
import Derived.Deep.Slices
import Derived.ReadAgain
import Derived.OpenShut
import Derived.Below
import Derived.WalkKit
import Derived.ProofKit
import Derived.Carry
set_option linter.unusedVariables false
set_option linter.unusedSimpArgs false
/- The machine that the proof runs on, part 5 of 6: texts of my own, put together by program. No statement is proved here. -/
/- Calls and rounds carried out where they stand: what code asks, relative to where a call began. -/
namespace Go.As
section
variable {P : Program}
def M.fr (m : M) (r : Nat) : M := ⟨m.pl, fun r' => if r' = r then some none else m.fz r'⟩
end
end Go.As
/- What a piece of code asks, calls and ranges over functions carried out where they stand. -/
/- States of which a part is kept, renamed; loops whose states are told by what changes. -/
/- The machine that the proof runs on, part 6 of 6: texts of my own, put together by program. No statement is proved here. -/
/- Calls carried out in a memory of their own, which hand back new memory. -/
/- Keys of maps; slices that grow; cells of lists. -/
namespace Go.As
end Go.As
/- Contracts. -/
/- Equality of structs and arrays of 64-bit numbers. -/
/- Memories of rounds: a call or a round goes on from one of them to another one. -/
/- Loops of few rounds, one round after another. -/
/- Regions that draw their order, but for the operations at their end, which come one after another in each order. -/
/- Slices that grow in a loop. -/
/- What nobody writes any more: what is handed back, taken for a value; the arguments of a law. -/
/- Lists that grow by appends, whatever their elements are; arrays that are filled. -/
namespace Go.As
section
variable {α : Type}
theorem gR_at {e : α → List V} {sz : Nat} (he : ∀ x, (e x).length = sz) : ∀ {l : List α} {i k : Nat} {x : α} {v : V}, l.reverse[i]? = some x → (e x)[k]? = some v → (gR e l)[i * sz + k]? = some v
  | [], i, k, x, v, h, _ => by simp at h
  | y :: l, i, k, x, v, h, hk => by
    show (gR e l ++ e y)[i * sz + k]? = _
    have hks : k < sz := by have := (List.getElem?_eq_some_iff.1 hk).1; rwa [he] at this
    have hl : l.reverse.length = l.length := List.length_reverse
    rw [List.reverse_cons] at h
    by_cases hi : i < l.length
    · rw [List.getElem?_append_left (by rw [hl]; exact hi)] at h
      have := gR_at he h hk
      rw [List.getElem?_append_left ((List.getElem?_eq_some_iff.1 this).1)]
      exact this
    · have hlt := (List.getElem?_eq_some_iff.1 h).1
      rw [List.length_append, hl, List.length_singleton] at hlt
      have hi' : i = l.length := by omega
      subst hi'
      rw [List.getElem?_append_right (by rw [hl]; omega), hl, Nat.sub_self] at h
      have hx : y = x := by simpa using h
      subst hx
      have hg := gR_len he l
      rw [List.getElem?_append_right (by omega), hg, show l.length * sz + k - l.length * sz = k from by omega]
      exact hk
noncomputable def gNew (sz : Nat) (e : α → List V) : List α → List Blk
  | [] => []
  | x :: l => [grB sz (gR e (x :: l)) (l.length + 1)]
theorem gNew_wr {sz : Nat} {e : α → List V} {l : List α} : ∀ b ∈ gNew sz e l, b.wr = true := by
  cases l with
  | nil => intro b h; cases h
  | cons x l => intro b h; rw [List.mem_singleton.1 h]; rfl
theorem grSh (vs : Vw) (n k sz i m : Nat) (e : α → List V) (l : List α) (hm : i + (gNew sz e l).length ≤ m) : ShV vs n k m (grV (n + i) l.length) (grV (k + i) l.length) := by
  cases l with
  | nil => exact .bare rfl
  | cons x l => exact .sl (i := i) (by have : (gNew sz e (x :: l)).length = 1 := rfl; omega) rfl rfl
theorem grBs {vs : Vw} {n k m sz : Nat} {e : α → List V} (hb : ∀ x, ∀ v ∈ e x, bare0 v = true) {l : List α} {i : Nat} {b : Blk} (h : (gNew sz e l)[i]? = some b) : b.wr = true ∧ ShB vs n k m b b := by
  cases l with
  | nil => simp [gNew] at h
  | cons x l =>
    cases i with
    | zero => have e1 : grB sz (gR e (x :: l)) (l.length + 1) = b := Option.some.inj h; subst e1; exact ⟨rfl, .bare (ofL_bare (gR_bare hb))⟩
    | succ i => simp [gNew] at h
theorem grFz {n0 i sz : Nat} {e : α → List V} (he : ∀ x, (e x).length = sz) (hb : ∀ x, ∀ v ∈ e x, bare0 v = true) {l : List α} {news : List Blk} (hn : ∀ b, (gNew sz e l)[0]? = some b → news[i]? = some b) {g : Nat → List V} (hg : ∀ j x, l.reverse[j]? = some x → g j = e x) :
    Fz n0 news (grV (n0 + i) l.length) (.rsl false sz l.length g) := by
  cases l with
  | nil => exact .nil
  | cons x l =>
    have hx : ∀ j, j < (x :: l).length → ∃ y, (x :: l).reverse[j]? = some y := fun j hj => by
      have : j < (x :: l).reverse.length := by rw [List.length_reverse]; exact hj
      exact ⟨_, List.getElem?_eq_getElem this⟩
    refine .sl (i := i) rfl (hn _ rfl) (fun h => by cases h) (Nat.le_refl _) (fun j hj => ?_) (fun j hj k v hk => ?_)
    · obtain ⟨y, hy⟩ := hx j hj
      rw [hg j y hy]; exact he y
    · obtain ⟨y, hy⟩ := hx j hj
      rw [hg j y hy] at hk
      refine ⟨get_ofL0 ?_, hb y v (List.mem_of_getElem? hk)⟩
      rw [Nat.zero_add]
      exact gR_at he hy hk
theorem gr_freeze {P : Program} {f : FuncId} {args : List V} {h : H} {sz : Nat} {e : α → List V} (he : ∀ x, (e x).length = sz) (hb : ∀ x, ∀ v ∈ e x, bare0 v = true) {l : List α} (hc : CallOk P f args h (grV h.n l.length) (addBs h (gNew sz e l))) {g : Nat → List V}
    (hg : ∀ j x, l.reverse[j]? = some x → g j = e x) : CallOk P f args h (.rsl false sz l.length g) h :=
  CallOk.freeze hc (grFz (i := 0) he hb (fun _ h => h) hg) gNew_wr
end
end Go.As
/- A closed run whose answer tells of new blocks, known in every memory. -/
/- Calls that write to some blocks of the memory, where they are: known in a memory of these alone. -/
namespace Go.Proofs.K
open Go.As
set_option maxRecDepth 20000
def sgn (i a b : Nat) : Int := if i < a ∧ b ≤ i then -1 else 1
theorem sgn_skip {i a : Nat} (h : i < a) (z : Int) : sgn i a (i + 1) * (z * -1) = sgn i a i * z := by
  unfold sgn
  rw [if_neg (by omega), if_pos ⟨h, Nat.le_refl _⟩]
  omega
theorem sgn_step {i a b : Nat} (h : b ≠ i) : sgn i a (b + 1) = sgn i a b := by
  unfold sgn
  (repeat' split) <;> first | rfl | (exfalso; omega)
theorem sgn_end {i a : Nat} : sgn i a a = 1 := by
  unfold sgn
  rw [if_neg (by omega)]
theorem sgn_zero {i a : Nat} (h : ¬ i < a) : sgn i a 0 = 1 := by
  unfold sgn
  rw [if_neg (by omega)]
theorem sgn_neg {i a : Nat} (h : i < a) : sgn i a 0 = -1 := by
  unfold sgn
  rw [if_pos (by omega)]
theorem sgn_bd {i a b : Nat} {z : Int} (h : -4665600000000000 ≤ z ∧ z ≤ 4665600000000000) : -4665600000000000 ≤ sgn i a b * z ∧ sgn i a b * z ≤ 4665600000000000 := by
  unfold sgn
  split <;> omega
set_option maxHeartbeats 16000000 in
theorem placeR_ok (h : As.H) (ex : Bool) (n : Nat) (x y : Nat → Int) (d : Nat) (hD : Dy n x) (hy : Pl n y) (hd : d ≤ 60) :
    CallOk Try.prog 82 [.rsl ex 2 n (lkG x y), .int .i64 d] h (.tup [.int .i64 (qP n x y d), .bool (whP n x y d)]) h := by
  have hn := hD.le
  have hd' : 0 ≤ (d : Int) ∧ (d : Int) ≤ 60 := by omega
  have hdb := fun i j hi hj => den_bd hD (i := i) (j := j) hi hj
  have hrg := hD.rg
  have hP0 : trP (df x) 0 = 1 := rfl
  have hPs : ∀ i, trP (df x) (i + 1) = trP (df x) i * rwP (df x) i i := fun i => rfl
  have hR0 : ∀ i, rwP (df x) i 0 = 1 := fun i => rfl
  have hRs : ∀ i j, rwP (df x) i (j + 1) = rwP (df x) i j * (x i - x j) := fun i j => rfl
  have hdp := den_pos hD
  have hdl := den_le hD
  have hqb := qP_bd hD hy hd
  unfold qP at hqb ⊢
  unfold whP
  refine CallOk.run0 Try.func82 rfl rfl rfl rfl rfl (WpR.of_vc ?_)
  (conv => whnf); (repeat' (first | ((with_reducible refine ifb_mk (fun hc => ?_) (fun hc => ?_)) <;> ((try simp only [decide_eq_true_eq, decide_eq_false_iff_not, Bool.not_eq_true', Bool.not_eq_false', Int.not_lt, Int.not_le, ne_eq, Decidable.not_not, beq_iff_eq, List.cons.injEq, and_true] at hc); (first | (exfalso; omega) | exact absurd True.intro hc | conv => whnf))) | ((with_reducible refine And.intro True.intro ?_); conv => whnf) | ((with_reducible refine And.intro ?hh ?_); (case hh => exact condA); conv => whnf) | fail))
  refine WpR.loopA (ι := Nat × Int) [] [0, 1, 7] [] [] 0 (fun p => [(8, .int .i64 p.1), (6, .int .i64 p.2)]) (fun _ => []) (fun p => n - p.1) (fun p => p.1 ≤ n ∧ p.2 = trP (df x) p.1) ?_ ((0, 1)) (⟨Nat.zero_le _, hP0.symm⟩) [] Back.auto
  rintro ⟨i, dn⟩ ⟨j1, j2⟩
  dsimp only at j1 j2
  refine WpR.of_vc ?_
  by_cases hi : i < n
  · have hri := hrg i hi
    (conv => whnf); (repeat' (first | ((with_reducible refine ifb_mk (fun hc => ?_) (fun hc => ?_)) <;> ((try simp only [decide_eq_true_eq, decide_eq_false_iff_not, Bool.not_eq_true', Bool.not_eq_false', Int.not_lt, Int.not_le, ne_eq, Decidable.not_not, beq_iff_eq, List.cons.injEq, and_true] at hc); (first | (exfalso; omega) | exact absurd True.intro hc | conv => whnf))) | ((with_reducible refine And.intro True.intro ?_); conv => whnf) | ((with_reducible refine grd_and ?_); refine And.intro (hi) ?_; conv => whnf) | ((with_reducible refine And.intro ?hh ?_); (case hh => exact condA); conv => whnf) | fail))
    refine WpR.loopA (ι := Nat × Int) [] [0, 1, 7, 8] [] [] 0 (fun p => [(9, .int .i64 p.1), (6, .int .i64 p.2)]) (fun _ => []) (fun p => i - p.1) (fun p => p.1 ≤ i ∧ p.2 = trP (df x) i * rwP (df x) i p.1) ?_ ((0, dn)) (⟨Nat.zero_le _, by rw [hR0, j2]; omega⟩) [] Back.auto
    rintro ⟨j, dm⟩ ⟨k1, k2⟩
    dsimp only at k1 k2
    refine WpR.of_vc ?_
    by_cases hj : j < i
    · have hrj := hrg j (by omega)
      have hjn : j < n := by omega
      have b1 := hdb i (j + 1) hi (by omega)
      have e1 : dm * (x i - x j) = trP (df x) i * rwP (df x) i (j + 1) := by rw [k2, hRs, Int.mul_assoc]
      have y1 : InR (dm * (x i - x j)) := by rw [e1]; unfold InR; omega
      have y0 : InR (x i - x j) := by unfold InR; omega
      (conv => whnf); (repeat' (first | ((with_reducible refine ifb_mk (fun hc => ?_) (fun hc => ?_)) <;> ((try simp only [decide_eq_true_eq, decide_eq_false_iff_not, Bool.not_eq_true', Bool.not_eq_false', Int.not_lt, Int.not_le, ne_eq, Decidable.not_not, beq_iff_eq, List.cons.injEq, and_true] at hc); (first | (exfalso; omega) | exact absurd True.intro hc | conv => whnf))) | ((with_reducible refine And.intro True.intro ?_); conv => whnf) | ((with_reducible refine grd_and ?_); refine And.intro (hj) ?_; conv => whnf) | ((with_reducible refine grd_and ?_); refine And.intro (hi) ?_; conv => whnf) | ((with_reducible refine grd_and ?_); refine And.intro (hjn) ?_; conv => whnf) | ((with_reducible refine grd_and ?_); refine And.intro (y0) ?_; conv => whnf) | ((with_reducible refine grd_and ?_); refine And.intro (y1) ?_; conv => whnf) | ((with_reducible refine WpR.draw (id := 8) mixed [0, 1, 2, 3, 4, 5, 6, 7, 8, 9, 10, 11, 12, 13] [0, 0, 0, 6, 14, 30, 0, 0, 192, 448, 960, 2046, 4095, 8191] ?hh ?_); (case hh => kernel_rfl); conv => whnf) | ((with_reducible refine WpR.draw (id := 24) mixed [0, 1, 2, 3, 4, 5, 6, 7, 8, 9, 10, 11, 12, 13] [0, 0, 0, 6, 14, 30, 0, 0, 192, 448, 960, 2046, 4095, 8191] ?hh ?_); (case hh => kernel_rfl); conv => whnf) | ((with_reducible refine WpR.draw (id := 26) mixed [0, 1, 2, 3, 4, 5, 6, 7, 8] [0, 0, 3, 0, 0, 24, 56, 7, 255] ?hh ?_); (case hh => kernel_rfl); conv => whnf) | ((with_reducible refine And.intro ?hh ?_); (case hh => exact condA); conv => whnf) | fail))
      all_goals first | (exfalso; omega) | exact ⟨(j + 1, dm * (x i - x j)), [], by dsimp only; omega, ⟨by dsimp only; omega, e1⟩, Back.auto⟩
    · have e : j = i := by omega
      subst e
      (conv => whnf); (repeat' (first | ((with_reducible refine ifb_mk (fun hc => ?_) (fun hc => ?_)) <;> ((try simp only [decide_eq_true_eq, decide_eq_false_iff_not, Bool.not_eq_true', Bool.not_eq_false', Int.not_lt, Int.not_le, ne_eq, Decidable.not_not, beq_iff_eq, List.cons.injEq, and_true] at hc); (first | (exfalso; omega) | exact absurd True.intro hc | conv => whnf))) | ((with_reducible refine And.intro True.intro ?_); conv => whnf) | ((with_reducible refine grd_and ?_); refine And.intro (hj) ?_; conv => whnf) | ((with_reducible refine And.intro ?hh ?_); (case hh => exact condA); conv => whnf) | fail))
      all_goals first | (exfalso; omega) | exact ⟨(j + 1, dm), [], by dsimp only; omega, ⟨by dsimp only; omega, by dsimp only; rw [hPs, k2]⟩, Back.auto⟩
  · have e : i = n := by omega
    rw [e] at j2
    rw [← j2] at hdp hdl hqb ⊢
    (conv => whnf); (repeat' (first | ((with_reducible refine ifb_mk (fun hc => ?_) (fun hc => ?_)) <;> ((try simp only [decide_eq_true_eq, decide_eq_false_iff_not, Bool.not_eq_true', Bool.not_eq_false', Int.not_lt, Int.not_le, ne_eq, Decidable.not_not, beq_iff_eq, List.cons.injEq, and_true] at hc); (first | (exfalso; omega) | exact absurd True.intro hc | conv => whnf))) | ((with_reducible refine And.intro True.intro ?_); conv => whnf) | ((with_reducible refine grd_and ?_); refine And.intro (hi) ?_; conv => whnf) | ((with_reducible refine And.intro ?hh ?_); (case hh => exact condA); conv => whnf) | fail))
    clear hdb hP0 hPs hR0 hRs e hi j1
    refine WpR.loopA (ι := Nat × Int) [] [0, 1, 6] [] [] 0 (fun p => [(10, .int .i64 p.1), (7, .int .i64 p.2)]) (fun _ => []) (fun p => n - p.1) (fun p => p.1 ≤ n ∧ p.2 = nuP n x y d p.1) ?_ ((0, 0)) (⟨Nat.zero_le _, rfl⟩) [] Back.auto
    rintro ⟨k, nm⟩ ⟨k1, k2⟩
    dsimp only at k1 k2
    refine WpR.of_vc ?_
    by_cases hk : k < n
    · have hyk := hy k hk
      (conv => whnf); (repeat' (first | ((with_reducible refine ifb_mk (fun hc => ?_) (fun hc => ?_)) <;> ((try simp only [decide_eq_true_eq, decide_eq_false_iff_not, Bool.not_eq_true', Bool.not_eq_false', Int.not_lt, Int.not_le, ne_eq, Decidable.not_not, beq_iff_eq, List.cons.injEq, and_true] at hc); (first | (exfalso; omega) | exact absurd True.intro hc | conv => whnf))) | ((with_reducible refine And.intro True.intro ?_); conv => whnf) | ((with_reducible refine grd_and ?_); refine And.intro (hk) ?_; conv => whnf) | ((with_reducible refine And.intro ?hh ?_); (case hh => exact condA); conv => whnf) | fail))
      refine WpR.loopA (ι := Nat × Int) [] [0, 1, 6, 7, 10] [] [] 0 (fun p => [(12, .int .i64 p.1), (11, .int .i64 p.2)]) (fun _ => []) (fun p => n - p.1) (fun p => p.1 ≤ n ∧ p.2 = y k * tmP x d k p.1 * trP (gq x k n) p.1) ?_ ((0, y k)) (⟨Nat.zero_le _, by show y k = y k * 1 * 1; omega⟩) [] Back.auto
      rintro ⟨m, te⟩ ⟨l1, l2⟩
      dsimp only at l1 l2
      refine WpR.of_vc ?_
      by_cases hm : m < n
      · have hts : tmP x d k (m + 1) = tmP x d k m * (if m = k then 1 else (d : Int) - x m) := rfl
        have htp : trP (gq x k n) (m + 1) = trP (gq x k n) m * rwP (gq x k n) m m := rfl
        have hrm := hrg m hm
        by_cases hmk : m = k
        · have e1 : te = y k * tmP x d k (m + 1) * trP (gq x k n) (m + 1) := by
            rw [l2, hts, if_pos hmk, htp, hmk, rw_self x k k (by omega)]
            simp
          have hmk2 : ¬ (m : Int) ≠ k := by omega
          (conv => whnf); (repeat' (first | ((with_reducible refine ifb_mk (fun hc => ?_) (fun hc => ?_)) <;> ((try simp only [decide_eq_true_eq, decide_eq_false_iff_not, Bool.not_eq_true', Bool.not_eq_false', Int.not_lt, Int.not_le, ne_eq, Decidable.not_not, beq_iff_eq, List.cons.injEq, and_true] at hc); (first | (exfalso; omega) | exact absurd True.intro hc | conv => whnf))) | ((with_reducible refine And.intro True.intro ?_); conv => whnf) | ((with_reducible refine grd_and ?_); refine And.intro (hm) ?_; conv => whnf) | ((with_reducible refine And.intro ?hh ?_); (case hh => exact condA); conv => whnf) | fail))
          all_goals first | (exfalso; omega) | exact ⟨(m + 1, te), [], by dsimp only; omega, ⟨by dsimp only; omega, e1⟩, Back.auto⟩
        · have b0 := tr_bd hD hy hd' (j := m + 1) hk (by omega) hm (Nat.zero_le m)
          have hr0 : rwP (gq x k n) m 0 = 1 := rfl
          have e1 : te * ((d : Int) - x m) = y k * tmP x d k (m + 1) * (trP (gq x k n) m * rwP (gq x k n) m 0) := by
            rw [l2, hts, if_neg hmk, hr0, Int.mul_one]
            grind
          have y1 : InR (te * ((d : Int) - x m)) := by rw [e1]; unfold InR; omega
          have y2 : InR ((d : Int) - x m) := by unfold InR; omega
          have y3 : InR (-(te * ((d : Int) - x m))) := by rw [e1]; unfold InR; omega
          have hfin : ∀ tf, tf = sgn k m m * (y k * tmP x d k (m + 1) * (trP (gq x k n) m * rwP (gq x k n) m m)) → tf = y k * tmP x d k (m + 1) * trP (gq x k n) (m + 1) := fun tf h => by rw [h, sgn_end, Int.one_mul, htp]
          have hbd := fun b (hb : b ≤ m) => sgn_bd (i := k) (a := m) (b := b) (tr_bd hD hy hd' (j := m + 1) (i := k) (a := m) (b := b) hk (by omega) hm hb)
          have hst : ∀ b, b < m → b ≠ k → ∀ tf, tf = sgn k m b * (y k * tmP x d k (m + 1) * (trP (gq x k n) m * rwP (gq x k n) m b)) → tf * (x m - x b) = sgn k m (b + 1) * (y k * tmP x d k (m + 1) * (trP (gq x k n) m * rwP (gq x k n) m (b + 1))) := fun b hb hbk tf h => by
            have hg : gq x k n m b = x m - x b := by unfold gq; rw [if_neg (by omega), if_neg (by omega)]
            have hrs : rwP (gq x k n) m (b + 1) = rwP (gq x k n) m b * gq x k n m b := rfl
            rw [h, sgn_step hbk, hrs, hg]
            grind
          have hsk : ∀ b, b < m → b = k → ∀ tf, tf = sgn k m b * (y k * tmP x d k (m + 1) * (trP (gq x k n) m * rwP (gq x k n) m b)) → tf = sgn k m (b + 1) * (y k * tmP x d k (m + 1) * (trP (gq x k n) m * rwP (gq x k n) m (b + 1))) := fun b hb hbk tf h => by
            subst hbk
            have hg : gq x b n m b = -1 := by unfold gq; rw [if_neg (by omega), if_pos (by omega)]
            have hrs : rwP (gq x b n) m (b + 1) = rwP (gq x b n) m b * gq x b n m b := rfl
            rw [h, hrs, hg, ← sgn_skip hb]
            congr 1
            grind
          have hin : ∀ t0 : Int, t0 = sgn k m 0 * (y k * tmP x d k (m + 1) * (trP (gq x k n) m * rwP (gq x k n) m 0)) → True := fun _ _ => trivial
          have hz0 : ¬ k < m → te * ((d : Int) - x m) = sgn k m 0 * (y k * tmP x d k (m + 1) * (trP (gq x k n) m * rwP (gq x k n) m 0)) := fun h => by rw [sgn_zero h, e1, Int.one_mul]
          have hz1 : k < m → -(te * ((d : Int) - x m)) = sgn k m 0 * (y k * tmP x d k (m + 1) * (trP (gq x k n) m * rwP (gq x k n) m 0)) := fun h => by rw [sgn_neg h, e1]; omega
          clear e1 hin hts htp hr0 b0
          generalize (fun b => sgn k m b * (y k * tmP x d k (m + 1) * (trP (gq x k n) m * rwP (gq x k n) m b))) = G at *
          by_cases hkm : k < m
          · have hz := hz1 hkm
            (conv => whnf); (repeat' (first | ((with_reducible refine ifb_mk (fun hc => ?_) (fun hc => ?_)) <;> ((try simp only [decide_eq_true_eq, decide_eq_false_iff_not, Bool.not_eq_true', Bool.not_eq_false', Int.not_lt, Int.not_le, ne_eq, Decidable.not_not, beq_iff_eq, List.cons.injEq, and_true] at hc); (first | (exfalso; omega) | exact absurd True.intro hc | conv => whnf))) | ((with_reducible refine And.intro True.intro ?_); conv => whnf) | ((with_reducible refine grd_and ?_); refine And.intro (hm) ?_; conv => whnf) | ((with_reducible refine grd_and ?_); refine And.intro (y2) ?_; conv => whnf) | ((with_reducible refine grd_and ?_); refine And.intro (y1) ?_; conv => whnf) | ((with_reducible refine grd_and ?_); refine And.intro (y3) ?_; conv => whnf) | ((with_reducible refine And.intro ?hh ?_); (case hh => exact condA); conv => whnf) | fail))
            all_goals first | (exfalso; omega) | skip
            refine WpR.loopA (ι := Nat × Int) [] [0, 1, 6, 7, 10, 12] [] [] 0 (fun p => [(13, .int .i64 p.1), (11, .int .i64 p.2)]) (fun _ => []) (fun p => m - p.1) (fun p => p.1 ≤ m ∧ p.2 = sgn k m p.1 * (y k * tmP x d k (m + 1) * (trP (gq x k n) m * rwP (gq x k n) m p.1))) ?_ ((0, -(te * ((d : Int) - x m)))) (⟨Nat.zero_le _, hz⟩) [] Back.auto
            rintro ⟨b, tf⟩ ⟨i1, i2⟩
            dsimp only at i1 i2
            refine WpR.of_vc ?_
            by_cases hb : b < m
            · have hbn : b < n := by omega
              have hrb := hrg b hbn
              by_cases hbk : b = k
              · have q1 := hsk b hb hbk tf i2
                have hbk2 : (b : Int) = k := by omega
                (conv => whnf); (repeat' (first | ((with_reducible refine ifb_mk (fun hc => ?_) (fun hc => ?_)) <;> ((try simp only [decide_eq_true_eq, decide_eq_false_iff_not, Bool.not_eq_true', Bool.not_eq_false', Int.not_lt, Int.not_le, ne_eq, Decidable.not_not, beq_iff_eq, List.cons.injEq, and_true] at hc); (first | (exfalso; omega) | exact absurd True.intro hc | conv => whnf))) | ((with_reducible refine And.intro True.intro ?_); conv => whnf) | ((with_reducible refine grd_and ?_); refine And.intro (hb) ?_; conv => whnf) | ((with_reducible refine And.intro ?hh ?_); (case hh => exact condA); conv => whnf) | fail))
                all_goals first | (exfalso; omega) | exact ⟨(b + 1, tf), [], by dsimp only; omega, ⟨by dsimp only; omega, q1⟩, Back.auto⟩
              · have q1 := hst b hb hbk tf i2
                have q2 := hbd (b + 1) (by omega)
                have z1 : InR (tf * (x m - x b)) := by rw [q1]; unfold InR; omega
                have z2 : InR (x m - x b) := by unfold InR; omega
                have hbk2 : (b : Int) ≠ k := by omega
                (conv => whnf); (repeat' (first | ((with_reducible refine ifb_mk (fun hc => ?_) (fun hc => ?_)) <;> ((try simp only [decide_eq_true_eq, decide_eq_false_iff_not, Bool.not_eq_true', Bool.not_eq_false', Int.not_lt, Int.not_le, ne_eq, Decidable.not_not, beq_iff_eq, List.cons.injEq, and_true] at hc); (first | (exfalso; omega) | exact absurd True.intro hc | conv => whnf))) | ((with_reducible refine And.intro True.intro ?_); conv => whnf) | ((with_reducible refine grd_and ?_); refine And.intro (hb) ?_; conv => whnf) | ((with_reducible refine grd_and ?_); refine And.intro (hm) ?_; conv => whnf) | ((with_reducible refine grd_and ?_); refine And.intro (hbn) ?_; conv => whnf) | ((with_reducible refine grd_and ?_); refine And.intro (z2) ?_; conv => whnf) | ((with_reducible refine grd_and ?_); refine And.intro (z1) ?_; conv => whnf) | ((with_reducible refine WpR.draw (id := 8) mixed [0, 1, 2, 3, 4, 5, 6, 7, 8, 9, 10, 11, 12, 13] [0, 0, 0, 6, 14, 30, 0, 0, 192, 448, 960, 2046, 4095, 8191] ?hh ?_); (case hh => kernel_rfl); conv => whnf) | ((with_reducible refine WpR.draw (id := 24) mixed [0, 1, 2, 3, 4, 5, 6, 7, 8, 9, 10, 11, 12, 13] [0, 0, 0, 6, 14, 30, 0, 0, 192, 448, 960, 2046, 4095, 8191] ?hh ?_); (case hh => kernel_rfl); conv => whnf) | ((with_reducible refine WpR.draw (id := 26) mixed [0, 1, 2, 3, 4, 5, 6, 7, 8] [0, 0, 3, 0, 0, 24, 56, 7, 255] ?hh ?_); (case hh => kernel_rfl); conv => whnf) | ((with_reducible refine And.intro ?hh ?_); (case hh => exact condA); conv => whnf) | fail))
                all_goals first | (exfalso; omega) | exact ⟨(b + 1, tf * (x m - x b)), [], by dsimp only; omega, ⟨by dsimp only; omega, q1⟩, Back.auto⟩
            · have e : b = m := by omega
              subst e
              have q1 := hfin tf i2
              (conv => whnf); (repeat' (first | ((with_reducible refine ifb_mk (fun hc => ?_) (fun hc => ?_)) <;> ((try simp only [decide_eq_true_eq, decide_eq_false_iff_not, Bool.not_eq_true', Bool.not_eq_false', Int.not_lt, Int.not_le, ne_eq, Decidable.not_not, beq_iff_eq, List.cons.injEq, and_true] at hc); (first | (exfalso; omega) | exact absurd True.intro hc | conv => whnf))) | ((with_reducible refine And.intro True.intro ?_); conv => whnf) | ((with_reducible refine grd_and ?_); refine And.intro (hb) ?_; conv => whnf) | ((with_reducible refine And.intro ?hh ?_); (case hh => exact condA); conv => whnf) | fail))
              all_goals first | (exfalso; omega) | exact ⟨(b + 1, tf), [], by dsimp only; omega, ⟨by dsimp only; omega, q1⟩, Back.auto⟩
          · have hz := hz0 hkm
            (conv => whnf); (repeat' (first | ((with_reducible refine ifb_mk (fun hc => ?_) (fun hc => ?_)) <;> ((try simp only [decide_eq_true_eq, decide_eq_false_iff_not, Bool.not_eq_true', Bool.not_eq_false', Int.not_lt, Int.not_le, ne_eq, Decidable.not_not, beq_iff_eq, List.cons.injEq, and_true] at hc); (first | (exfalso; omega) | exact absurd True.intro hc | conv => whnf))) | ((with_reducible refine And.intro True.intro ?_); conv => whnf) | ((with_reducible refine grd_and ?_); refine And.intro (hm) ?_; conv => whnf) | ((with_reducible refine grd_and ?_); refine And.intro (y2) ?_; conv => whnf) | ((with_reducible refine grd_and ?_); refine And.intro (y1) ?_; conv => whnf) | ((with_reducible refine grd_and ?_); refine And.intro (y3) ?_; conv => whnf) | ((with_reducible refine And.intro ?hh ?_); (case hh => exact condA); conv => whnf) | fail))
            all_goals first | (exfalso; omega) | skip
            refine WpR.loopA (ι := Nat × Int) [] [0, 1, 6, 7, 10, 12] [] [] 0 (fun p => [(13, .int .i64 p.1), (11, .int .i64 p.2)]) (fun _ => []) (fun p => m - p.1) (fun p => p.1 ≤ m ∧ p.2 = sgn k m p.1 * (y k * tmP x d k (m + 1) * (trP (gq x k n) m * rwP (gq x k n) m p.1))) ?_ ((0, te * ((d : Int) - x m))) (⟨Nat.zero_le _, hz⟩) [] Back.auto
            rintro ⟨b, tf⟩ ⟨i1, i2⟩
            dsimp only at i1 i2
            refine WpR.of_vc ?_
            by_cases hb : b < m
            · have hbn : b < n := by omega
              have hrb := hrg b hbn
              by_cases hbk : b = k
              · have q1 := hsk b hb hbk tf i2
                have hbk2 : (b : Int) = k := by omega
                (conv => whnf); (repeat' (first | ((with_reducible refine ifb_mk (fun hc => ?_) (fun hc => ?_)) <;> ((try simp only [decide_eq_true_eq, decide_eq_false_iff_not, Bool.not_eq_true', Bool.not_eq_false', Int.not_lt, Int.not_le, ne_eq, Decidable.not_not, beq_iff_eq, List.cons.injEq, and_true] at hc); (first | (exfalso; omega) | exact absurd True.intro hc | conv => whnf))) | ((with_reducible refine And.intro True.intro ?_); conv => whnf) | ((with_reducible refine grd_and ?_); refine And.intro (hb) ?_; conv => whnf) | ((with_reducible refine And.intro ?hh ?_); (case hh => exact condA); conv => whnf) | fail))
                all_goals first | (exfalso; omega) | exact ⟨(b + 1, tf), [], by dsimp only; omega, ⟨by dsimp only; omega, q1⟩, Back.auto⟩
              · have q1 := hst b hb hbk tf i2
                have q2 := hbd (b + 1) (by omega)
                have z1 : InR (tf * (x m - x b)) := by rw [q1]; unfold InR; omega
                have z2 : InR (x m - x b) := by unfold InR; omega
                have hbk2 : (b : Int) ≠ k := by omega
                (conv => whnf); (repeat' (first | ((with_reducible refine ifb_mk (fun hc => ?_) (fun hc => ?_)) <;> ((try simp only [decide_eq_true_eq, decide_eq_false_iff_not, Bool.not_eq_true', Bool.not_eq_false', Int.not_lt, Int.not_le, ne_eq, Decidable.not_not, beq_iff_eq, List.cons.injEq, and_true] at hc); (first | (exfalso; omega) | exact absurd True.intro hc | conv => whnf))) | ((with_reducible refine And.intro True.intro ?_); conv => whnf) | ((with_reducible refine grd_and ?_); refine And.intro (hb) ?_; conv => whnf) | ((with_reducible refine grd_and ?_); refine And.intro (hm) ?_; conv => whnf) | ((with_reducible refine grd_and ?_); refine And.intro (hbn) ?_; conv => whnf) | ((with_reducible refine grd_and ?_); refine And.intro (z2) ?_; conv => whnf) | ((with_reducible refine grd_and ?_); refine And.intro (z1) ?_; conv => whnf) | ((with_reducible refine WpR.draw (id := 8) mixed [0, 1, 2, 3, 4, 5, 6, 7, 8, 9, 10, 11, 12, 13] [0, 0, 0, 6, 14, 30, 0, 0, 192, 448, 960, 2046, 4095, 8191] ?hh ?_); (case hh => kernel_rfl); conv => whnf) | ((with_reducible refine WpR.draw (id := 24) mixed [0, 1, 2, 3, 4, 5, 6, 7, 8, 9, 10, 11, 12, 13] [0, 0, 0, 6, 14, 30, 0, 0, 192, 448, 960, 2046, 4095, 8191] ?hh ?_); (case hh => kernel_rfl); conv => whnf) | ((with_reducible refine WpR.draw (id := 26) mixed [0, 1, 2, 3, 4, 5, 6, 7, 8] [0, 0, 3, 0, 0, 24, 56, 7, 255] ?hh ?_); (case hh => kernel_rfl); conv => whnf) | ((with_reducible refine And.intro ?hh ?_); (case hh => exact condA); conv => whnf) | fail))
                all_goals first | (exfalso; omega) | exact ⟨(b + 1, tf * (x m - x b)), [], by dsimp only; omega, ⟨by dsimp only; omega, q1⟩, Back.auto⟩
            · have e : b = m := by omega
              subst e
              have q1 := hfin tf i2
              (conv => whnf); (repeat' (first | ((with_reducible refine ifb_mk (fun hc => ?_) (fun hc => ?_)) <;> ((try simp only [decide_eq_true_eq, decide_eq_false_iff_not, Bool.not_eq_true', Bool.not_eq_false', Int.not_lt, Int.not_le, ne_eq, Decidable.not_not, beq_iff_eq, List.cons.injEq, and_true] at hc); (first | (exfalso; omega) | exact absurd True.intro hc | conv => whnf))) | ((with_reducible refine And.intro True.intro ?_); conv => whnf) | ((with_reducible refine grd_and ?_); refine And.intro (hb) ?_; conv => whnf) | ((with_reducible refine And.intro ?hh ?_); (case hh => exact condA); conv => whnf) | fail))
              all_goals first | (exfalso; omega) | exact ⟨(b + 1, tf), [], by dsimp only; omega, ⟨by dsimp only; omega, q1⟩, Back.auto⟩
      · have e : m = n := by omega
        subst e
        have b1 := te_bd hD hy hd' hk
        have b2 := nu_bd hD hy hd' k (by omega)
        have e1 : nm + te = nuP m x y d (k + 1) := by rw [k2, l2]; rfl
        have y2 : InR (nm + te) := by rw [l2, k2]; unfold InR; omega
        (conv => whnf); (repeat' (first | ((with_reducible refine ifb_mk (fun hc => ?_) (fun hc => ?_)) <;> ((try simp only [decide_eq_true_eq, decide_eq_false_iff_not, Bool.not_eq_true', Bool.not_eq_false', Int.not_lt, Int.not_le, ne_eq, Decidable.not_not, beq_iff_eq, List.cons.injEq, and_true] at hc); (first | (exfalso; omega) | exact absurd True.intro hc | conv => whnf))) | ((with_reducible refine And.intro True.intro ?_); conv => whnf) | ((with_reducible refine grd_and ?_); refine And.intro (hm) ?_; conv => whnf) | ((with_reducible refine grd_and ?_); refine And.intro (y2) ?_; conv => whnf) | ((with_reducible refine And.intro ?hh ?_); (case hh => exact condA); conv => whnf) | fail))
        all_goals first | (exfalso; omega) | exact ⟨(k + 1, nm + te), [], by dsimp only; omega, ⟨by dsimp only; omega, e1⟩, Back.auto⟩
    · have e : k = n := by omega
      rw [e] at k2
      rw [← k2] at hqb ⊢
      have z0 : dn ≠ 0 := by omega
      have z1 := tmod_bd (a := nm) ⟨hdp, hdl⟩
      have z2 : InR (nm.tdiv dn) := by unfold InR; omega
      (conv => whnf); (repeat' (first | ((with_reducible refine ifb_mk (fun hc => ?_) (fun hc => ?_)) <;> ((try simp only [decide_eq_true_eq, decide_eq_false_iff_not, Bool.not_eq_true', Bool.not_eq_false', Int.not_lt, Int.not_le, ne_eq, Decidable.not_not, beq_iff_eq, List.cons.injEq, and_true] at hc); (first | (exfalso; omega) | exact absurd True.intro hc | conv => whnf))) | ((with_reducible refine And.intro True.intro ?_); conv => whnf) | ((with_reducible refine grd_and ?_); refine And.intro (hk) ?_; conv => whnf) | ((with_reducible refine grd_and ?_); refine And.intro (z0) ?_; conv => whnf) | ((with_reducible refine grd_and ?_); refine And.intro (z1) ?_; conv => whnf) | ((with_reducible refine grd_and ?_); refine And.intro (z2) ?_; conv => whnf) | ((with_reducible refine WpR.draw (id := 8) mixed [0, 1, 2, 3, 4, 5, 6, 7, 8, 9, 10, 11, 12, 13] [0, 0, 0, 6, 14, 30, 0, 0, 192, 448, 960, 2046, 4095, 8191] ?hh ?_); (case hh => kernel_rfl); conv => whnf) | ((with_reducible refine WpR.draw (id := 24) mixed [0, 1, 2, 3, 4, 5, 6, 7, 8, 9, 10, 11, 12, 13] [0, 0, 0, 6, 14, 30, 0, 0, 192, 448, 960, 2046, 4095, 8191] ?hh ?_); (case hh => kernel_rfl); conv => whnf) | ((with_reducible refine WpR.draw (id := 26) mixed [0, 1, 2, 3, 4, 5, 6, 7, 8] [0, 0, 3, 0, 0, 24, 56, 7, 255] ?hh ?_); (case hh => kernel_rfl); conv => whnf) | ((with_reducible refine And.intro ?hh ?_); (case hh => exact condA); conv => whnf) | fail))
      all_goals first | (exfalso; omega) | (refine ⟨[], ?_, rfl, rfl, trivial, trivs⟩; simp only [renV, renL]; (first | done | rfl | (simp; done) | (simp; omega) | grind))
end Go.Proofs.K
namespace Go.Proofs.K
open Go.As
set_option maxRecDepth 20000
set_option maxHeartbeats 16000000 in
theorem passY1 (h : As.H) (ex : Bool) (x y : Nat → Int) (hD : Dy 1 x) (hy : Pl 1 y) (hw : alW 1 x y = true) :
    CallOk Try.prog 64 [.rsl ex 2 1 (lkG x y)] h (.tup [.sl (h.n + 0) 0 1 1 false, .bool true]) (addBs h [paB 1 fun k => dif (qP 1 x y) k 0]) := by
  have k0 : ∀ h' : As.H, CallOk Try.prog 82 [.rsl ex 2 1 (lkG x y), .int .i64 0] h' (.tup [.int .i64 (qP 1 x y 0), .bool (whP 1 x y 0)]) h' := fun h' => placeR_ok h' ex 1 x y 0 hD hy (by omega)
  have b0 := qP_bd hD hy (d := 0) (by omega)
  rw [allF_iff.1 hw 0 (by omega)] at k0
  generalize qP 1 x y = Q at *
  clear hw
  refine CallOk.runN Try.func64 rfl rfl (argsC := [.rsl ex 2 1 (lkG x y)]) (fun N => .tup [.sl (N + 0) 0 1 1 false, .bool true]) (fun _ => [paB 1 fun k => dif Q k 0]) (Nat.le_of_ble_eq_true rfl) [] (.cons (.lt0 rfl) .nil) (viewM0 h) (ShV.tup (.cons (.sl (i := 0) (Nat.le_of_ble_eq_true rfl) rfl rfl) (.cons (.bare rfl) .nil))) rfl (fun i b hi => ?_) (WpR.of_vc ?_)
  · match i, hi with
    | 0, hi => cases hi; exact ⟨_, rfl, rfl, .bare (ofL_bare (arrV_bare fun _ => rfl))⟩
    | i + 1, hi => simp at hi
  · (conv => whnf); (repeat' (first | ((with_reducible refine ifb_mk (fun hc => ?_) (fun hc => ?_)) <;> ((try simp only [decide_eq_true_eq, decide_eq_false_iff_not, Bool.not_eq_true', Bool.not_eq_false', Int.not_lt, Int.not_le, ne_eq, Decidable.not_not, beq_iff_eq, List.cons.injEq, and_true] at hc); (first | (exfalso; omega) | exact absurd True.intro hc | conv => whnf))) | ((with_reducible refine And.intro True.intro ?_); conv => whnf) | ((with_reducible refine CallX.all ?_); refine CallW.of_ok (k0 _) ?_; conv => whnf) | ((with_reducible refine WpR.loopU 5 ?_); conv => whnf) | ((with_reducible refine CallX.all (f := 78) ?_); refine CallW.inline Try.func78 rfl rfl (Nat.le_of_ble_eq_true rfl) (WpR.of_vc ?_); conv => whnf) | (refine AppX.nil (n := 1) Nat.zero_lt_one (Nat.le_of_ble_eq_true rfl) ?_; conv => whnf) | (refine AppX.own (n := 1) rfl rfl rfl Nat.zero_lt_one (Nat.le_of_ble_eq_true rfl) ?_; conv => whnf) | ((with_reducible refine WpR.draw (id := 8) mixed [0, 1, 2, 3, 4, 5, 6, 7, 8, 9, 10, 11, 12, 13] [0, 0, 0, 6, 14, 0, 0, 64, 224, 480, 1022, 2046, 4095, 8191] ?hh ?_); (case hh => kernel_rfl); conv => whnf) | ((with_reducible refine And.intro ?hh ?_); (case hh => exact condA); conv => whnf) | fail))
    all_goals first | (exfalso; omega) | exact ⟨[_], rfl, rfl, rfl, ⟨⟨_, rfl, rfl, SubQ.fin (by (conv => whnf); (repeat' (first | exact True.intro | rfl | refine And.intro ?_ ?_)); done) (fun h => h) (.inl rfl)⟩, paB_lt, rfl, trivial⟩, trivs⟩
set_option maxHeartbeats 16000000 in
theorem passN1 (h : As.H) (ex : Bool) (x y : Nat → Int) (hD : Dy 1 x) (hy : Pl 1 y) (hw : alW 1 x y = false) :
    CallOk Try.prog 64 [.rsl ex 2 1 (lkG x y)] h (.tup [.nils, .bool false]) h := by
  have k0 : ∀ h' : As.H, CallOk Try.prog 82 [.rsl ex 2 1 (lkG x y), .int .i64 0] h' (.tup [.int .i64 (qP 1 x y 0), .bool (whP 1 x y 0)]) h' := fun h' => placeR_ok h' ex 1 x y 0 hD hy (by omega)
  have b0 := qP_bd hD hy (d := 0) (by omega)
  have hw2 : ∃ d, d < 1 ∧ whP 1 x y d = false := by
    apply Classical.byContradiction
    intro hc
    have : alW 1 x y = true := allF_t fun i hi => by
      cases e : whP 1 x y i with
      | true => rfl
      | false => exact absurd ⟨i, hi, e⟩ hc
    rw [hw] at this; cases this
  generalize qP 1 x y = Q at *
  generalize whP 1 x y = W at *
  clear hw
  cases e0 : W 0 with
  | false =>
    rw [e0] at k0
    refine CallOk.run0 Try.func64 rfl rfl rfl rfl rfl (WpR.of_vc ?_)
    (conv => whnf); (repeat' (first | ((with_reducible refine ifb_mk (fun hc => ?_) (fun hc => ?_)) <;> ((try simp only [decide_eq_true_eq, decide_eq_false_iff_not, Bool.not_eq_true', Bool.not_eq_false', Int.not_lt, Int.not_le, ne_eq, Decidable.not_not, beq_iff_eq, List.cons.injEq, and_true] at hc); (first | (exfalso; omega) | exact absurd True.intro hc | conv => whnf))) | ((with_reducible refine And.intro True.intro ?_); conv => whnf) | ((with_reducible refine CallX.all ?_); refine CallW.of_ok (k0 _) ?_; conv => whnf) | ((with_reducible refine WpR.loopU 5 ?_); conv => whnf) | (refine AppX.nil (n := 1) Nat.zero_lt_one (Nat.le_of_ble_eq_true rfl) ?_; conv => whnf) | (refine AppX.own (n := 1) rfl rfl rfl Nat.zero_lt_one (Nat.le_of_ble_eq_true rfl) ?_; conv => whnf) | ((with_reducible refine And.intro ?hh ?_); (case hh => exact condA); conv => whnf) | fail))
    all_goals first | (exfalso; omega) | (refine ⟨[], ?_, rfl, rfl, trivial, trivs⟩; simp only [renV, renL]; (first | done | rfl | (simp; done) | (simp; omega) | grind))
  | true =>
  rw [e0] at k0
  exfalso
  obtain ⟨d, h1, h2⟩ := hw2
  match d, h1 with
  | 0, _ => rw [e0] at h2; cases h2
set_option maxHeartbeats 16000000 in
theorem passY2 (h : As.H) (ex : Bool) (x y : Nat → Int) (hD : Dy 2 x) (hy : Pl 2 y) (hw : alW 2 x y = true) :
    CallOk Try.prog 64 [.rsl ex 2 2 (lkG x y)] h (.tup [.sl (h.n + 0) 0 2 2 false, .bool true]) (addBs h [paB 2 fun k => dif (qP 2 x y) k 0]) := by
  have k0 : ∀ h' : As.H, CallOk Try.prog 82 [.rsl ex 2 2 (lkG x y), .int .i64 0] h' (.tup [.int .i64 (qP 2 x y 0), .bool (whP 2 x y 0)]) h' := fun h' => placeR_ok h' ex 2 x y 0 hD hy (by omega)
  have b0 := qP_bd hD hy (d := 0) (by omega)
  have k1 : ∀ h' : As.H, CallOk Try.prog 82 [.rsl ex 2 2 (lkG x y), .int .i64 1] h' (.tup [.int .i64 (qP 2 x y 1), .bool (whP 2 x y 1)]) h' := fun h' => placeR_ok h' ex 2 x y 1 hD hy (by omega)
  have b1 := qP_bd hD hy (d := 1) (by omega)
  rw [allF_iff.1 hw 0 (by omega)] at k0
  rw [allF_iff.1 hw 1 (by omega)] at k1
  generalize qP 2 x y = Q at *
  clear hw
  refine CallOk.runN Try.func64 rfl rfl (argsC := [.rsl ex 2 2 (lkG x y)]) (fun N => .tup [.sl (N + 0) 0 2 2 false, .bool true]) (fun _ => [paB 2 fun k => dif Q k 0]) (Nat.le_of_ble_eq_true rfl) [] (.cons (.lt0 rfl) .nil) (viewM0 h) (ShV.tup (.cons (.sl (i := 0) (Nat.le_of_ble_eq_true rfl) rfl rfl) (.cons (.bare rfl) .nil))) rfl (fun i b hi => ?_) (WpR.of_vc ?_)
  · match i, hi with
    | 0, hi => cases hi; exact ⟨_, rfl, rfl, .bare (ofL_bare (arrV_bare fun _ => rfl))⟩
    | i + 1, hi => simp at hi
  · (conv => whnf); (repeat' (first | ((with_reducible refine ifb_mk (fun hc => ?_) (fun hc => ?_)) <;> ((try simp only [decide_eq_true_eq, decide_eq_false_iff_not, Bool.not_eq_true', Bool.not_eq_false', Int.not_lt, Int.not_le, ne_eq, Decidable.not_not, beq_iff_eq, List.cons.injEq, and_true] at hc); (first | (exfalso; omega) | exact absurd True.intro hc | conv => whnf))) | ((with_reducible refine And.intro True.intro ?_); conv => whnf) | ((with_reducible refine CallX.all ?_); refine CallW.of_ok (k0 _) ?_; conv => whnf) | ((with_reducible refine CallX.all ?_); refine CallW.of_ok (k1 _) ?_; conv => whnf) | ((with_reducible refine WpR.loopU 5 ?_); conv => whnf) | ((with_reducible refine CallX.all (f := 78) ?_); refine CallW.inline Try.func78 rfl rfl (Nat.le_of_ble_eq_true rfl) (WpR.of_vc ?_); conv => whnf) | (refine AppX.nil (n := 1) Nat.zero_lt_one (Nat.le_of_ble_eq_true rfl) ?_; conv => whnf) | (refine AppX.own (n := 1) rfl rfl rfl Nat.zero_lt_one (Nat.le_of_ble_eq_true rfl) ?_; conv => whnf) | ((with_reducible refine WpR.draw (id := 8) mixed [0, 1, 2, 3, 4, 5, 6, 7, 8, 9, 10, 11, 12, 13] [0, 0, 0, 6, 14, 0, 0, 64, 224, 480, 1022, 2046, 4095, 8191] ?hh ?_); (case hh => kernel_rfl); conv => whnf) | ((with_reducible refine And.intro ?hh ?_); (case hh => exact condA); conv => whnf) | fail))
    all_goals first | (exfalso; omega) | exact ⟨[_], rfl, rfl, rfl, ⟨⟨_, rfl, rfl, SubQ.fin (by (conv => whnf); (repeat' (first | exact True.intro | rfl | refine And.intro ?_ ?_)); done) (fun h => h) (.inl rfl)⟩, paB_lt, rfl, trivial⟩, trivs⟩
set_option maxHeartbeats 16000000 in
theorem passN2 (h : As.H) (ex : Bool) (x y : Nat → Int) (hD : Dy 2 x) (hy : Pl 2 y) (hw : alW 2 x y = false) :
    CallOk Try.prog 64 [.rsl ex 2 2 (lkG x y)] h (.tup [.nils, .bool false]) h := by
  have k0 : ∀ h' : As.H, CallOk Try.prog 82 [.rsl ex 2 2 (lkG x y), .int .i64 0] h' (.tup [.int .i64 (qP 2 x y 0), .bool (whP 2 x y 0)]) h' := fun h' => placeR_ok h' ex 2 x y 0 hD hy (by omega)
  have b0 := qP_bd hD hy (d := 0) (by omega)
  have k1 : ∀ h' : As.H, CallOk Try.prog 82 [.rsl ex 2 2 (lkG x y), .int .i64 1] h' (.tup [.int .i64 (qP 2 x y 1), .bool (whP 2 x y 1)]) h' := fun h' => placeR_ok h' ex 2 x y 1 hD hy (by omega)
  have b1 := qP_bd hD hy (d := 1) (by omega)
  have hw2 : ∃ d, d < 2 ∧ whP 2 x y d = false := by
    apply Classical.byContradiction
    intro hc
    have : alW 2 x y = true := allF_t fun i hi => by
      cases e : whP 2 x y i with
      | true => rfl
      | false => exact absurd ⟨i, hi, e⟩ hc
    rw [hw] at this; cases this
  generalize qP 2 x y = Q at *
  generalize whP 2 x y = W at *
  clear hw
  cases e0 : W 0 with
  | false =>
    rw [e0] at k0
    refine CallOk.run0 Try.func64 rfl rfl rfl rfl rfl (WpR.of_vc ?_)
    (conv => whnf); (repeat' (first | ((with_reducible refine ifb_mk (fun hc => ?_) (fun hc => ?_)) <;> ((try simp only [decide_eq_true_eq, decide_eq_false_iff_not, Bool.not_eq_true', Bool.not_eq_false', Int.not_lt, Int.not_le, ne_eq, Decidable.not_not, beq_iff_eq, List.cons.injEq, and_true] at hc); (first | (exfalso; omega) | exact absurd True.intro hc | conv => whnf))) | ((with_reducible refine And.intro True.intro ?_); conv => whnf) | ((with_reducible refine CallX.all ?_); refine CallW.of_ok (k0 _) ?_; conv => whnf) | ((with_reducible refine WpR.loopU 5 ?_); conv => whnf) | (refine AppX.nil (n := 1) Nat.zero_lt_one (Nat.le_of_ble_eq_true rfl) ?_; conv => whnf) | (refine AppX.own (n := 1) rfl rfl rfl Nat.zero_lt_one (Nat.le_of_ble_eq_true rfl) ?_; conv => whnf) | ((with_reducible refine And.intro ?hh ?_); (case hh => exact condA); conv => whnf) | fail))
    all_goals first | (exfalso; omega) | (refine ⟨[], ?_, rfl, rfl, trivial, trivs⟩; simp only [renV, renL]; (first | done | rfl | (simp; done) | (simp; omega) | grind))
  | true =>
  rw [e0] at k0
  cases e1 : W 1 with
  | false =>
    rw [e1] at k1
    refine CallOk.run0 Try.func64 rfl rfl rfl rfl rfl (WpR.of_vc ?_)
    (conv => whnf); (repeat' (first | ((with_reducible refine ifb_mk (fun hc => ?_) (fun hc => ?_)) <;> ((try simp only [decide_eq_true_eq, decide_eq_false_iff_not, Bool.not_eq_true', Bool.not_eq_false', Int.not_lt, Int.not_le, ne_eq, Decidable.not_not, beq_iff_eq, List.cons.injEq, and_true] at hc); (first | (exfalso; omega) | exact absurd True.intro hc | conv => whnf))) | ((with_reducible refine And.intro True.intro ?_); conv => whnf) | ((with_reducible refine CallX.all ?_); refine CallW.of_ok (k0 _) ?_; conv => whnf) | ((with_reducible refine CallX.all ?_); refine CallW.of_ok (k1 _) ?_; conv => whnf) | ((with_reducible refine WpR.loopU 5 ?_); conv => whnf) | (refine AppX.nil (n := 1) Nat.zero_lt_one (Nat.le_of_ble_eq_true rfl) ?_; conv => whnf) | (refine AppX.own (n := 1) rfl rfl rfl Nat.zero_lt_one (Nat.le_of_ble_eq_true rfl) ?_; conv => whnf) | ((with_reducible refine And.intro ?hh ?_); (case hh => exact condA); conv => whnf) | fail))
    all_goals first | (exfalso; omega) | (refine ⟨[], ?_, rfl, rfl, trivial, trivs⟩; simp only [renV, renL]; (first | done | rfl | (simp; done) | (simp; omega) | grind))
  | true =>
  rw [e1] at k1
  exfalso
  obtain ⟨d, h1, h2⟩ := hw2
  match d, h1 with
  | 0, _ => rw [e0] at h2; cases h2
  | 1, _ => rw [e1] at h2; cases h2
set_option maxHeartbeats 16000000 in
theorem passY3 (h : As.H) (ex : Bool) (x y : Nat → Int) (hD : Dy 3 x) (hy : Pl 3 y) (hw : alW 3 x y = true) :
    CallOk Try.prog 64 [.rsl ex 2 3 (lkG x y)] h (.tup [.sl (h.n + 0) 0 3 3 false, .bool true]) (addBs h [paB 3 fun k => dif (qP 3 x y) k 0]) := by
  have k0 : ∀ h' : As.H, CallOk Try.prog 82 [.rsl ex 2 3 (lkG x y), .int .i64 0] h' (.tup [.int .i64 (qP 3 x y 0), .bool (whP 3 x y 0)]) h' := fun h' => placeR_ok h' ex 3 x y 0 hD hy (by omega)
  have b0 := qP_bd hD hy (d := 0) (by omega)
  have k1 : ∀ h' : As.H, CallOk Try.prog 82 [.rsl ex 2 3 (lkG x y), .int .i64 1] h' (.tup [.int .i64 (qP 3 x y 1), .bool (whP 3 x y 1)]) h' := fun h' => placeR_ok h' ex 3 x y 1 hD hy (by omega)
  have b1 := qP_bd hD hy (d := 1) (by omega)
  have k2 : ∀ h' : As.H, CallOk Try.prog 82 [.rsl ex 2 3 (lkG x y), .int .i64 2] h' (.tup [.int .i64 (qP 3 x y 2), .bool (whP 3 x y 2)]) h' := fun h' => placeR_ok h' ex 3 x y 2 hD hy (by omega)
  have b2 := qP_bd hD hy (d := 2) (by omega)
  rw [allF_iff.1 hw 0 (by omega)] at k0
  rw [allF_iff.1 hw 1 (by omega)] at k1
  rw [allF_iff.1 hw 2 (by omega)] at k2
  generalize qP 3 x y = Q at *
  clear hw
  refine CallOk.runN Try.func64 rfl rfl (argsC := [.rsl ex 2 3 (lkG x y)]) (fun N => .tup [.sl (N + 0) 0 3 3 false, .bool true]) (fun _ => [paB 3 fun k => dif Q k 0]) (Nat.le_of_ble_eq_true rfl) [] (.cons (.lt0 rfl) .nil) (viewM0 h) (ShV.tup (.cons (.sl (i := 0) (Nat.le_of_ble_eq_true rfl) rfl rfl) (.cons (.bare rfl) .nil))) rfl (fun i b hi => ?_) (WpR.of_vc ?_)
  · match i, hi with
    | 0, hi => cases hi; exact ⟨_, rfl, rfl, .bare (ofL_bare (arrV_bare fun _ => rfl))⟩
    | i + 1, hi => simp at hi
  · (conv => whnf); (repeat' (first | ((with_reducible refine ifb_mk (fun hc => ?_) (fun hc => ?_)) <;> ((try simp only [decide_eq_true_eq, decide_eq_false_iff_not, Bool.not_eq_true', Bool.not_eq_false', Int.not_lt, Int.not_le, ne_eq, Decidable.not_not, beq_iff_eq, List.cons.injEq, and_true] at hc); (first | (exfalso; omega) | exact absurd True.intro hc | conv => whnf))) | ((with_reducible refine And.intro True.intro ?_); conv => whnf) | ((with_reducible refine CallX.all ?_); refine CallW.of_ok (k0 _) ?_; conv => whnf) | ((with_reducible refine CallX.all ?_); refine CallW.of_ok (k1 _) ?_; conv => whnf) | ((with_reducible refine CallX.all ?_); refine CallW.of_ok (k2 _) ?_; conv => whnf) | ((with_reducible refine WpR.loopU 5 ?_); conv => whnf) | ((with_reducible refine CallX.all (f := 78) ?_); refine CallW.inline Try.func78 rfl rfl (Nat.le_of_ble_eq_true rfl) (WpR.of_vc ?_); conv => whnf) | (refine AppX.nil (n := 1) Nat.zero_lt_one (Nat.le_of_ble_eq_true rfl) ?_; conv => whnf) | (refine AppX.own (n := 1) rfl rfl rfl Nat.zero_lt_one (Nat.le_of_ble_eq_true rfl) ?_; conv => whnf) | ((with_reducible refine WpR.draw (id := 8) mixed [0, 1, 2, 3, 4, 5, 6, 7, 8, 9, 10, 11, 12, 13] [0, 0, 0, 6, 14, 0, 0, 64, 224, 480, 1022, 2046, 4095, 8191] ?hh ?_); (case hh => kernel_rfl); conv => whnf) | ((with_reducible refine And.intro ?hh ?_); (case hh => exact condA); conv => whnf) | fail))
    all_goals first | (exfalso; omega) | exact ⟨[_], rfl, rfl, rfl, ⟨⟨_, rfl, rfl, SubQ.fin (by (conv => whnf); (repeat' (first | exact True.intro | rfl | refine And.intro ?_ ?_)); done) (fun h => h) (.inl rfl)⟩, paB_lt, rfl, trivial⟩, trivs⟩
set_option maxHeartbeats 16000000 in
theorem passN3 (h : As.H) (ex : Bool) (x y : Nat → Int) (hD : Dy 3 x) (hy : Pl 3 y) (hw : alW 3 x y = false) :
    CallOk Try.prog 64 [.rsl ex 2 3 (lkG x y)] h (.tup [.nils, .bool false]) h := by
  have k0 : ∀ h' : As.H, CallOk Try.prog 82 [.rsl ex 2 3 (lkG x y), .int .i64 0] h' (.tup [.int .i64 (qP 3 x y 0), .bool (whP 3 x y 0)]) h' := fun h' => placeR_ok h' ex 3 x y 0 hD hy (by omega)
  have b0 := qP_bd hD hy (d := 0) (by omega)
  have k1 : ∀ h' : As.H, CallOk Try.prog 82 [.rsl ex 2 3 (lkG x y), .int .i64 1] h' (.tup [.int .i64 (qP 3 x y 1), .bool (whP 3 x y 1)]) h' := fun h' => placeR_ok h' ex 3 x y 1 hD hy (by omega)
  have b1 := qP_bd hD hy (d := 1) (by omega)
  have k2 : ∀ h' : As.H, CallOk Try.prog 82 [.rsl ex 2 3 (lkG x y), .int .i64 2] h' (.tup [.int .i64 (qP 3 x y 2), .bool (whP 3 x y 2)]) h' := fun h' => placeR_ok h' ex 3 x y 2 hD hy (by omega)
  have b2 := qP_bd hD hy (d := 2) (by omega)
  have hw2 : ∃ d, d < 3 ∧ whP 3 x y d = false := by
    apply Classical.byContradiction
    intro hc
    have : alW 3 x y = true := allF_t fun i hi => by
      cases e : whP 3 x y i with
      | true => rfl
      | false => exact absurd ⟨i, hi, e⟩ hc
    rw [hw] at this; cases this
  generalize qP 3 x y = Q at *
  generalize whP 3 x y = W at *
  clear hw
  cases e0 : W 0 with
  | false =>
    rw [e0] at k0
    refine CallOk.run0 Try.func64 rfl rfl rfl rfl rfl (WpR.of_vc ?_)
    (conv => whnf); (repeat' (first | ((with_reducible refine ifb_mk (fun hc => ?_) (fun hc => ?_)) <;> ((try simp only [decide_eq_true_eq, decide_eq_false_iff_not, Bool.not_eq_true', Bool.not_eq_false', Int.not_lt, Int.not_le, ne_eq, Decidable.not_not, beq_iff_eq, List.cons.injEq, and_true] at hc); (first | (exfalso; omega) | exact absurd True.intro hc | conv => whnf))) | ((with_reducible refine And.intro True.intro ?_); conv => whnf) | ((with_reducible refine CallX.all ?_); refine CallW.of_ok (k0 _) ?_; conv => whnf) | ((with_reducible refine WpR.loopU 5 ?_); conv => whnf) | (refine AppX.nil (n := 1) Nat.zero_lt_one (Nat.le_of_ble_eq_true rfl) ?_; conv => whnf) | (refine AppX.own (n := 1) rfl rfl rfl Nat.zero_lt_one (Nat.le_of_ble_eq_true rfl) ?_; conv => whnf) | ((with_reducible refine And.intro ?hh ?_); (case hh => exact condA); conv => whnf) | fail))
    all_goals first | (exfalso; omega) | (refine ⟨[], ?_, rfl, rfl, trivial, trivs⟩; simp only [renV, renL]; (first | done | rfl | (simp; done) | (simp; omega) | grind))
  | true =>
  rw [e0] at k0
  cases e1 : W 1 with
  | false =>
    rw [e1] at k1
    refine CallOk.run0 Try.func64 rfl rfl rfl rfl rfl (WpR.of_vc ?_)
    (conv => whnf); (repeat' (first | ((with_reducible refine ifb_mk (fun hc => ?_) (fun hc => ?_)) <;> ((try simp only [decide_eq_true_eq, decide_eq_false_iff_not, Bool.not_eq_true', Bool.not_eq_false', Int.not_lt, Int.not_le, ne_eq, Decidable.not_not, beq_iff_eq, List.cons.injEq, and_true] at hc); (first | (exfalso; omega) | exact absurd True.intro hc | conv => whnf))) | ((with_reducible refine And.intro True.intro ?_); conv => whnf) | ((with_reducible refine CallX.all ?_); refine CallW.of_ok (k0 _) ?_; conv => whnf) | ((with_reducible refine CallX.all ?_); refine CallW.of_ok (k1 _) ?_; conv => whnf) | ((with_reducible refine WpR.loopU 5 ?_); conv => whnf) | (refine AppX.nil (n := 1) Nat.zero_lt_one (Nat.le_of_ble_eq_true rfl) ?_; conv => whnf) | (refine AppX.own (n := 1) rfl rfl rfl Nat.zero_lt_one (Nat.le_of_ble_eq_true rfl) ?_; conv => whnf) | ((with_reducible refine And.intro ?hh ?_); (case hh => exact condA); conv => whnf) | fail))
    all_goals first | (exfalso; omega) | (refine ⟨[], ?_, rfl, rfl, trivial, trivs⟩; simp only [renV, renL]; (first | done | rfl | (simp; done) | (simp; omega) | grind))
  | true =>
  rw [e1] at k1
  cases e2 : W 2 with
  | false =>
    rw [e2] at k2
    refine CallOk.run0 Try.func64 rfl rfl rfl rfl rfl (WpR.of_vc ?_)
    (conv => whnf); (repeat' (first | ((with_reducible refine ifb_mk (fun hc => ?_) (fun hc => ?_)) <;> ((try simp only [decide_eq_true_eq, decide_eq_false_iff_not, Bool.not_eq_true', Bool.not_eq_false', Int.not_lt, Int.not_le, ne_eq, Decidable.not_not, beq_iff_eq, List.cons.injEq, and_true] at hc); (first | (exfalso; omega) | exact absurd True.intro hc | conv => whnf))) | ((with_reducible refine And.intro True.intro ?_); conv => whnf) | ((with_reducible refine CallX.all ?_); refine CallW.of_ok (k0 _) ?_; conv => whnf) | ((with_reducible refine CallX.all ?_); refine CallW.of_ok (k1 _) ?_; conv => whnf) | ((with_reducible refine CallX.all ?_); refine CallW.of_ok (k2 _) ?_; conv => whnf) | ((with_reducible refine WpR.loopU 5 ?_); conv => whnf) | (refine AppX.nil (n := 1) Nat.zero_lt_one (Nat.le_of_ble_eq_true rfl) ?_; conv => whnf) | (refine AppX.own (n := 1) rfl rfl rfl Nat.zero_lt_one (Nat.le_of_ble_eq_true rfl) ?_; conv => whnf) | ((with_reducible refine And.intro ?hh ?_); (case hh => exact condA); conv => whnf) | fail))
    all_goals first | (exfalso; omega) | (refine ⟨[], ?_, rfl, rfl, trivial, trivs⟩; simp only [renV, renL]; (first | done | rfl | (simp; done) | (simp; omega) | grind))
  | true =>
  rw [e2] at k2
  exfalso
  obtain ⟨d, h1, h2⟩ := hw2
  match d, h1 with
  | 0, _ => rw [e0] at h2; cases h2
  | 1, _ => rw [e1] at h2; cases h2
  | 2, _ => rw [e2] at h2; cases h2
set_option maxHeartbeats 16000000 in
theorem passY4 (h : As.H) (ex : Bool) (x y : Nat → Int) (hD : Dy 4 x) (hy : Pl 4 y) (hw : alW 4 x y = true) :
    CallOk Try.prog 64 [.rsl ex 2 4 (lkG x y)] h (.tup [.sl (h.n + 0) 0 4 4 false, .bool true]) (addBs h [paB 4 fun k => dif (qP 4 x y) k 0]) := by
  have k0 : ∀ h' : As.H, CallOk Try.prog 82 [.rsl ex 2 4 (lkG x y), .int .i64 0] h' (.tup [.int .i64 (qP 4 x y 0), .bool (whP 4 x y 0)]) h' := fun h' => placeR_ok h' ex 4 x y 0 hD hy (by omega)
  have b0 := qP_bd hD hy (d := 0) (by omega)
  have k1 : ∀ h' : As.H, CallOk Try.prog 82 [.rsl ex 2 4 (lkG x y), .int .i64 1] h' (.tup [.int .i64 (qP 4 x y 1), .bool (whP 4 x y 1)]) h' := fun h' => placeR_ok h' ex 4 x y 1 hD hy (by omega)
  have b1 := qP_bd hD hy (d := 1) (by omega)
  have k2 : ∀ h' : As.H, CallOk Try.prog 82 [.rsl ex 2 4 (lkG x y), .int .i64 2] h' (.tup [.int .i64 (qP 4 x y 2), .bool (whP 4 x y 2)]) h' := fun h' => placeR_ok h' ex 4 x y 2 hD hy (by omega)
  have b2 := qP_bd hD hy (d := 2) (by omega)
  have k3 : ∀ h' : As.H, CallOk Try.prog 82 [.rsl ex 2 4 (lkG x y), .int .i64 3] h' (.tup [.int .i64 (qP 4 x y 3), .bool (whP 4 x y 3)]) h' := fun h' => placeR_ok h' ex 4 x y 3 hD hy (by omega)
  have b3 := qP_bd hD hy (d := 3) (by omega)
  rw [allF_iff.1 hw 0 (by omega)] at k0
  rw [allF_iff.1 hw 1 (by omega)] at k1
  rw [allF_iff.1 hw 2 (by omega)] at k2
  rw [allF_iff.1 hw 3 (by omega)] at k3
  generalize qP 4 x y = Q at *
  clear hw
  refine CallOk.runN Try.func64 rfl rfl (argsC := [.rsl ex 2 4 (lkG x y)]) (fun N => .tup [.sl (N + 0) 0 4 4 false, .bool true]) (fun _ => [paB 4 fun k => dif Q k 0]) (Nat.le_of_ble_eq_true rfl) [] (.cons (.lt0 rfl) .nil) (viewM0 h) (ShV.tup (.cons (.sl (i := 0) (Nat.le_of_ble_eq_true rfl) rfl rfl) (.cons (.bare rfl) .nil))) rfl (fun i b hi => ?_) (WpR.of_vc ?_)
  · match i, hi with
    | 0, hi => cases hi; exact ⟨_, rfl, rfl, .bare (ofL_bare (arrV_bare fun _ => rfl))⟩
    | i + 1, hi => simp at hi
  · (conv => whnf); (repeat' (first | ((with_reducible refine ifb_mk (fun hc => ?_) (fun hc => ?_)) <;> ((try simp only [decide_eq_true_eq, decide_eq_false_iff_not, Bool.not_eq_true', Bool.not_eq_false', Int.not_lt, Int.not_le, ne_eq, Decidable.not_not, beq_iff_eq, List.cons.injEq, and_true] at hc); (first | (exfalso; omega) | exact absurd True.intro hc | conv => whnf))) | ((with_reducible refine And.intro True.intro ?_); conv => whnf) | ((with_reducible refine CallX.all ?_); refine CallW.of_ok (k0 _) ?_; conv => whnf) | ((with_reducible refine CallX.all ?_); refine CallW.of_ok (k1 _) ?_; conv => whnf) | ((with_reducible refine CallX.all ?_); refine CallW.of_ok (k2 _) ?_; conv => whnf) | ((with_reducible refine CallX.all ?_); refine CallW.of_ok (k3 _) ?_; conv => whnf) | ((with_reducible refine WpR.loopU 5 ?_); conv => whnf) | ((with_reducible refine CallX.all (f := 78) ?_); refine CallW.inline Try.func78 rfl rfl (Nat.le_of_ble_eq_true rfl) (WpR.of_vc ?_); conv => whnf) | (refine AppX.nil (n := 1) Nat.zero_lt_one (Nat.le_of_ble_eq_true rfl) ?_; conv => whnf) | (refine AppX.own (n := 1) rfl rfl rfl Nat.zero_lt_one (Nat.le_of_ble_eq_true rfl) ?_; conv => whnf) | ((with_reducible refine WpR.draw (id := 8) mixed [0, 1, 2, 3, 4, 5, 6, 7, 8, 9, 10, 11, 12, 13] [0, 0, 0, 6, 14, 0, 0, 64, 224, 480, 1022, 2046, 4095, 8191] ?hh ?_); (case hh => kernel_rfl); conv => whnf) | ((with_reducible refine And.intro ?hh ?_); (case hh => exact condA); conv => whnf) | fail))
    all_goals first | (exfalso; omega) | exact ⟨[_], rfl, rfl, rfl, ⟨⟨_, rfl, rfl, SubQ.fin (by (conv => whnf); (repeat' (first | exact True.intro | rfl | refine And.intro ?_ ?_)); done) (fun h => h) (.inl rfl)⟩, paB_lt, rfl, trivial⟩, trivs⟩
set_option maxHeartbeats 16000000 in
theorem passN4 (h : As.H) (ex : Bool) (x y : Nat → Int) (hD : Dy 4 x) (hy : Pl 4 y) (hw : alW 4 x y = false) :
    CallOk Try.prog 64 [.rsl ex 2 4 (lkG x y)] h (.tup [.nils, .bool false]) h := by
  have k0 : ∀ h' : As.H, CallOk Try.prog 82 [.rsl ex 2 4 (lkG x y), .int .i64 0] h' (.tup [.int .i64 (qP 4 x y 0), .bool (whP 4 x y 0)]) h' := fun h' => placeR_ok h' ex 4 x y 0 hD hy (by omega)
  have b0 := qP_bd hD hy (d := 0) (by omega)
  have k1 : ∀ h' : As.H, CallOk Try.prog 82 [.rsl ex 2 4 (lkG x y), .int .i64 1] h' (.tup [.int .i64 (qP 4 x y 1), .bool (whP 4 x y 1)]) h' := fun h' => placeR_ok h' ex 4 x y 1 hD hy (by omega)
  have b1 := qP_bd hD hy (d := 1) (by omega)
  have k2 : ∀ h' : As.H, CallOk Try.prog 82 [.rsl ex 2 4 (lkG x y), .int .i64 2] h' (.tup [.int .i64 (qP 4 x y 2), .bool (whP 4 x y 2)]) h' := fun h' => placeR_ok h' ex 4 x y 2 hD hy (by omega)
  have b2 := qP_bd hD hy (d := 2) (by omega)
  have k3 : ∀ h' : As.H, CallOk Try.prog 82 [.rsl ex 2 4 (lkG x y), .int .i64 3] h' (.tup [.int .i64 (qP 4 x y 3), .bool (whP 4 x y 3)]) h' := fun h' => placeR_ok h' ex 4 x y 3 hD hy (by omega)
  have b3 := qP_bd hD hy (d := 3) (by omega)
  have hw2 : ∃ d, d < 4 ∧ whP 4 x y d = false := by
    apply Classical.byContradiction
    intro hc
    have : alW 4 x y = true := allF_t fun i hi => by
      cases e : whP 4 x y i with
      | true => rfl
      | false => exact absurd ⟨i, hi, e⟩ hc
    rw [hw] at this; cases this
  generalize qP 4 x y = Q at *
  generalize whP 4 x y = W at *
  clear hw
  cases e0 : W 0 with
  | false =>
    rw [e0] at k0
    refine CallOk.run0 Try.func64 rfl rfl rfl rfl rfl (WpR.of_vc ?_)
    (conv => whnf); (repeat' (first | ((with_reducible refine ifb_mk (fun hc => ?_) (fun hc => ?_)) <;> ((try simp only [decide_eq_true_eq, decide_eq_false_iff_not, Bool.not_eq_true', Bool.not_eq_false', Int.not_lt, Int.not_le, ne_eq, Decidable.not_not, beq_iff_eq, List.cons.injEq, and_true] at hc); (first | (exfalso; omega) | exact absurd True.intro hc | conv => whnf))) | ((with_reducible refine And.intro True.intro ?_); conv => whnf) | ((with_reducible refine CallX.all ?_); refine CallW.of_ok (k0 _) ?_; conv => whnf) | ((with_reducible refine WpR.loopU 5 ?_); conv => whnf) | (refine AppX.nil (n := 1) Nat.zero_lt_one (Nat.le_of_ble_eq_true rfl) ?_; conv => whnf) | (refine AppX.own (n := 1) rfl rfl rfl Nat.zero_lt_one (Nat.le_of_ble_eq_true rfl) ?_; conv => whnf) | ((with_reducible refine And.intro ?hh ?_); (case hh => exact condA); conv => whnf) | fail))
    all_goals first | (exfalso; omega) | (refine ⟨[], ?_, rfl, rfl, trivial, trivs⟩; simp only [renV, renL]; (first | done | rfl | (simp; done) | (simp; omega) | grind))
  | true =>
  rw [e0] at k0
  cases e1 : W 1 with
  | false =>
    rw [e1] at k1
    refine CallOk.run0 Try.func64 rfl rfl rfl rfl rfl (WpR.of_vc ?_)
    (conv => whnf); (repeat' (first | ((with_reducible refine ifb_mk (fun hc => ?_) (fun hc => ?_)) <;> ((try simp only [decide_eq_true_eq, decide_eq_false_iff_not, Bool.not_eq_true', Bool.not_eq_false', Int.not_lt, Int.not_le, ne_eq, Decidable.not_not, beq_iff_eq, List.cons.injEq, and_true] at hc); (first | (exfalso; omega) | exact absurd True.intro hc | conv => whnf))) | ((with_reducible refine And.intro True.intro ?_); conv => whnf) | ((with_reducible refine CallX.all ?_); refine CallW.of_ok (k0 _) ?_; conv => whnf) | ((with_reducible refine CallX.all ?_); refine CallW.of_ok (k1 _) ?_; conv => whnf) | ((with_reducible refine WpR.loopU 5 ?_); conv => whnf) | (refine AppX.nil (n := 1) Nat.zero_lt_one (Nat.le_of_ble_eq_true rfl) ?_; conv => whnf) | (refine AppX.own (n := 1) rfl rfl rfl Nat.zero_lt_one (Nat.le_of_ble_eq_true rfl) ?_; conv => whnf) | ((with_reducible refine And.intro ?hh ?_); (case hh => exact condA); conv => whnf) | fail))
    all_goals first | (exfalso; omega) | (refine ⟨[], ?_, rfl, rfl, trivial, trivs⟩; simp only [renV, renL]; (first | done | rfl | (simp; done) | (simp; omega) | grind))
  | true =>
  rw [e1] at k1
  cases e2 : W 2 with
  | false =>
    rw [e2] at k2
    refine CallOk.run0 Try.func64 rfl rfl rfl rfl rfl (WpR.of_vc ?_)
    (conv => whnf); (repeat' (first | ((with_reducible refine ifb_mk (fun hc => ?_) (fun hc => ?_)) <;> ((try simp only [decide_eq_true_eq, decide_eq_false_iff_not, Bool.not_eq_true', Bool.not_eq_false', Int.not_lt, Int.not_le, ne_eq, Decidable.not_not, beq_iff_eq, List.cons.injEq, and_true] at hc); (first | (exfalso; omega) | exact absurd True.intro hc | conv => whnf))) | ((with_reducible refine And.intro True.intro ?_); conv => whnf) | ((with_reducible refine CallX.all ?_); refine CallW.of_ok (k0 _) ?_; conv => whnf) | ((with_reducible refine CallX.all ?_); refine CallW.of_ok (k1 _) ?_; conv => whnf) | ((with_reducible refine CallX.all ?_); refine CallW.of_ok (k2 _) ?_; conv => whnf) | ((with_reducible refine WpR.loopU 5 ?_); conv => whnf) | (refine AppX.nil (n := 1) Nat.zero_lt_one (Nat.le_of_ble_eq_true rfl) ?_; conv => whnf) | (refine AppX.own (n := 1) rfl rfl rfl Nat.zero_lt_one (Nat.le_of_ble_eq_true rfl) ?_; conv => whnf) | ((with_reducible refine And.intro ?hh ?_); (case hh => exact condA); conv => whnf) | fail))
    all_goals first | (exfalso; omega) | (refine ⟨[], ?_, rfl, rfl, trivial, trivs⟩; simp only [renV, renL]; (first | done | rfl | (simp; done) | (simp; omega) | grind))
  | true =>
  rw [e2] at k2
  cases e3 : W 3 with
  | false =>
    rw [e3] at k3
    refine CallOk.run0 Try.func64 rfl rfl rfl rfl rfl (WpR.of_vc ?_)
    (conv => whnf); (repeat' (first | ((with_reducible refine ifb_mk (fun hc => ?_) (fun hc => ?_)) <;> ((try simp only [decide_eq_true_eq, decide_eq_false_iff_not, Bool.not_eq_true', Bool.not_eq_false', Int.not_lt, Int.not_le, ne_eq, Decidable.not_not, beq_iff_eq, List.cons.injEq, and_true] at hc); (first | (exfalso; omega) | exact absurd True.intro hc | conv => whnf))) | ((with_reducible refine And.intro True.intro ?_); conv => whnf) | ((with_reducible refine CallX.all ?_); refine CallW.of_ok (k0 _) ?_; conv => whnf) | ((with_reducible refine CallX.all ?_); refine CallW.of_ok (k1 _) ?_; conv => whnf) | ((with_reducible refine CallX.all ?_); refine CallW.of_ok (k2 _) ?_; conv => whnf) | ((with_reducible refine CallX.all ?_); refine CallW.of_ok (k3 _) ?_; conv => whnf) | ((with_reducible refine WpR.loopU 5 ?_); conv => whnf) | (refine AppX.nil (n := 1) Nat.zero_lt_one (Nat.le_of_ble_eq_true rfl) ?_; conv => whnf) | (refine AppX.own (n := 1) rfl rfl rfl Nat.zero_lt_one (Nat.le_of_ble_eq_true rfl) ?_; conv => whnf) | ((with_reducible refine And.intro ?hh ?_); (case hh => exact condA); conv => whnf) | fail))
    all_goals first | (exfalso; omega) | (refine ⟨[], ?_, rfl, rfl, trivial, trivs⟩; simp only [renV, renL]; (first | done | rfl | (simp; done) | (simp; omega) | grind))
  | true =>
  rw [e3] at k3
  exfalso
  obtain ⟨d, h1, h2⟩ := hw2
  match d, h1 with
  | 0, _ => rw [e0] at h2; cases h2
  | 1, _ => rw [e1] at h2; cases h2
  | 2, _ => rw [e2] at h2; cases h2
  | 3, _ => rw [e3] at h2; cases h2
theorem pass_ok (h : As.H) (ex : Bool) (n : Nat) (hn : 1 ≤ n) (x y : Nat → Int) (hD : Dy n x) (hy : Pl n y) :
    CallOk Try.prog 64 [.rsl ex 2 n (lkG x y)] h (match alW n x y with | true => .tup [.rsl false 1 n (iG fun k => dif (qP n x y) k 0), .bool true] | false => .tup [.nils, .bool false]) h := by
  have hl := hD.le
  cases hw : alW n x y with
  | true =>
    have hf := FzL.tup (.cons (pa_fz (n0 := h.n) (i := 0) (m := n) (p := fun k => dif (qP n x y) k 0) (ex := false) (news := [paB n fun k => dif (qP n x y) k 0]) rfl (h.n + 0) rfl) (.cons (.same (v := .bool true) rfl) .nil))
    match n, hn, hl with
    | 1, _, _ => exact CallOk.freeze (passY1 h ex x y hD hy hw) hf (fun b hb => by rw [List.mem_singleton.1 hb]; rfl)
    | 2, _, _ => exact CallOk.freeze (passY2 h ex x y hD hy hw) hf (fun b hb => by rw [List.mem_singleton.1 hb]; rfl)
    | 3, _, _ => exact CallOk.freeze (passY3 h ex x y hD hy hw) hf (fun b hb => by rw [List.mem_singleton.1 hb]; rfl)
    | 4, _, _ => exact CallOk.freeze (passY4 h ex x y hD hy hw) hf (fun b hb => by rw [List.mem_singleton.1 hb]; rfl)
  | false =>
    match n, hn, hl with
    | 1, _, _ => exact passN1 h ex x y hD hy hw
    | 2, _, _ => exact passN2 h ex x y hD hy hw
    | 3, _, _ => exact passN3 h ex x y hD hy hw
    | 4, _, _ => exact passN4 h ex x y hD hy hw
end Go.Proofs.K
namespace Go.Proofs.K
open Go.As
set_option maxRecDepth 20000
theorem wrap64n {r : Int} (h : 0 ≤ r ∧ r < 65536) : IntKind.i64.wrap r = r := wrap_in (inR_of (by unfold InR; omega))
theorem and64 {a b : Nat} (ha : a < 65536) (hb : b < 65536) : IntKind.i64.wrap (((BitVec.ofInt IntKind.i64.bits (a : Int) &&& BitVec.ofInt IntKind.i64.bits (b : Int)).toNat : Nat) : Int) = ((a &&& b : Nat) : Int) := by
  have e : (BitVec.ofInt IntKind.i64.bits (a : Int) &&& BitVec.ofInt IntKind.i64.bits (b : Int)).toNat = a &&& b := by
    show (BitVec.ofInt 64 (a : Int) &&& BitVec.ofInt 64 (b : Int)).toNat = _
    rw [BitVec.toNat_and, BitVec.ofInt_natCast, BitVec.ofInt_natCast, BitVec.toNat_ofNat, BitVec.toNat_ofNat, Nat.mod_eq_of_lt (by omega), Nat.mod_eq_of_lt (by omega)]
  have hlt : a &&& b < 65536 := Nat.lt_of_le_of_lt Nat.and_le_left ha
  rw [e]
  exact wrap64n ⟨by omega, by omega⟩
theorem or64 {a b : Nat} (ha : a < 65536) (hb : b < 65536) : IntKind.i64.wrap (((BitVec.ofInt IntKind.i64.bits (a : Int) ||| BitVec.ofInt IntKind.i64.bits (b : Int)).toNat : Nat) : Int) = ((a ||| b : Nat) : Int) := by
  have e : (BitVec.ofInt IntKind.i64.bits (a : Int) ||| BitVec.ofInt IntKind.i64.bits (b : Int)).toNat = a ||| b := by
    show (BitVec.ofInt 64 (a : Int) ||| BitVec.ofInt 64 (b : Int)).toNat = _
    rw [BitVec.toNat_or, BitVec.ofInt_natCast, BitVec.ofInt_natCast, BitVec.toNat_ofNat, BitVec.toNat_ofNat, Nat.mod_eq_of_lt (by omega), Nat.mod_eq_of_lt (by omega)]
  have hlt : a ||| b < 65536 := Nat.or_lt_two_pow (n := 16) ha hb
  rw [e]
  exact wrap64n ⟨by omega, by omega⟩
theorem shr64 {a s : Nat} (hs : s < 16) : (a : Int).fdiv (2 ^ min (s : Int).toNat IntKind.i64.bits) = ((a >>> s : Nat) : Int) := by
  have hm : min (s : Int).toNat (IntKind.i64).bits = s := by show min (s : Int).toNat 64 = s; omega
  rw [hm, Int.fdiv_eq_ediv_of_nonneg _ (show (0 : Int) ≤ 2 ^ s from by have : (0 : Int) < 2 ^ s := Int.pow_pos (by decide); omega), Nat.shiftRight_eq_div_pow]
  simp
theorem shl64 {s : Nat} (hs : s < 16) : IntKind.i64.wrap (1 * 2 ^ min (s : Int).toNat IntKind.i64.bits) = ((2 ^ s : Nat) : Int) := by
  have hp : 2 ^ s < 65536 := Nat.pow_lt_pow_right (a := 2) (by omega) hs
  have hm : min (s : Int).toNat (IntKind.i64).bits = s := by show min (s : Int).toNat 64 = s; omega
  rw [hm, Int.one_mul, show ((2 : Int) ^ s) = ((2 ^ s : Nat) : Int) from by simp]
  generalize 2 ^ s = z at *
  exact wrap64n ⟨by omega, by omega⟩
def onN (ps : Nat → Bool) : Nat → Nat
  | 0 => 0
  | i + 1 => if ps i = true then onN ps i ||| 2 ^ i else onN ps i
theorem onN_bit {ps : Nat → Bool} : ∀ n k, (onN ps n).testBit k = (decide (k < n) && ps k)
  | 0, k => by unfold onN; rw [Nat.zero_testBit, decide_eq_false (Nat.not_lt_zero k)]; rfl
  | n + 1, k => by
    have ih := onN_bit (ps := ps) n k
    unfold onN
    cases hp : ps n with
    | true =>
      rw [if_pos rfl, Nat.testBit_or, Nat.testBit_two_pow, ih]
      by_cases e : k = n
      · subst e; simp [hp]
      · have h1 : decide (n = k) = false := decide_eq_false (fun h => e h.symm)
        have h2 : decide (k < n + 1) = decide (k < n) := by rw [Bool.eq_iff_iff, decide_eq_true_eq, decide_eq_true_eq]; omega
        rw [h1, h2, Bool.or_false]
    | false =>
      rw [if_neg (by decide), ih]
      by_cases e : k = n
      · subst e; simp [hp]
      · have h2 : decide (k < n + 1) = decide (k < n) := by rw [Bool.eq_iff_iff, decide_eq_true_eq, decide_eq_true_eq]; omega
        rw [h2]
theorem onN_lt {ps : Nat → Bool} : ∀ n, onN ps n < 2 ^ n
  | 0 => Nat.one_pos
  | n + 1 => by
    have ih := onN_lt (ps := ps) n
    have h2 : 2 ^ n < 2 ^ (n + 1) := Nat.pow_lt_pow_right (a := 2) (by omega) (by omega)
    unfold onN
    split
    · exact Nat.or_lt_two_pow (by omega) h2
    · omega
def pmF (m : Nat) (p : Nat → Int) (x y : Nat → Int) (i : Nat) : Bool := decide (plc p (x i).toNat m = y i)
theorem pmF_eq {m : Nat} {p : Nat → Int} {x y : Nat → Int} (hm : m ≤ 4) (i : Nat) : pmF m p x y i = psF (cut m p) x y i := by unfold pmF psF; rw [plc_cut 4 hm]
set_option maxHeartbeats 4000000 in
theorem on_ok (h : As.H) (ex ex2 : Bool) (n : Nat) (hn : n ≤ 12) (x y : Nat → Int) (hx : ∀ i, i < n → 0 ≤ x i ∧ x i ≤ 60) (m : Nat) (hm : m ≤ 4) (p : Nat → Int) (hp : Sm 8796093022208 m p) : CallOk Try.prog 43 [.rsl ex 2 n (lkG x y), .rsl ex2 1 m (iG p)] h (.int .i64 (onN (pmF m p x y) n)) h := by
  have kA := fun (d : Nat) (hd : d < 100) h' => atOf_ok h' ex2 m p d hd hm hp
  have hps : ∀ i, pmF m p x y i = decide (plc p (x i).toNat m = y i) := fun i => rfl
  have h0 : onN (pmF m p x y) 0 = 0 := rfl
  have hs : ∀ i, onN (pmF m p x y) (i + 1) = if pmF m p x y i = true then onN (pmF m p x y) i ||| 2 ^ i else onN (pmF m p x y) i := fun i => rfl
  have hl := fun i => onN_lt (ps := pmF m p x y) i
  generalize onN (pmF m p x y) = o at *
  generalize pmF m p x y = ps at *
  refine CallOk.run0 Try.func43 rfl rfl rfl rfl rfl (WpR.of_vc ?_)
  (conv => whnf); (repeat' (first | ((with_reducible refine ifb_mk (fun hc => ?_) (fun hc => ?_)) <;> ((try simp only [decide_eq_true_eq, decide_eq_false_iff_not, Bool.not_eq_true', Bool.not_eq_false', Int.not_lt, Int.not_le, ne_eq, Decidable.not_not, beq_iff_eq, List.cons.injEq, and_true] at hc); (first | (exfalso; omega) | exact absurd True.intro hc | conv => whnf))) | ((with_reducible refine And.intro True.intro ?_); conv => whnf) | ((with_reducible refine And.intro ?hh ?_); (case hh => exact condA); conv => whnf) | fail))
  refine WpR.loopA (ι := Nat × Int) [] [0, 1] [] [] 0 (fun q => [(6, .int .i64 q.1), (5, .int .i64 q.2)]) (fun _ => []) (fun q => n - q.1) (fun q => q.1 ≤ n ∧ q.2 = o q.1) ?_ ((0, 0)) (⟨Nat.zero_le _, by rw [h0]; rfl⟩) [] Back.auto
  rintro ⟨i, s⟩ ⟨j1, j2⟩
  dsimp only at j1 j2
  subst j2
  refine WpR.of_vc ?_
  by_cases hi : i < n
  · obtain ⟨d, hd⟩ : ∃ d : Nat, x i = d := ⟨(x i).toNat, by have := hx i hi; omega⟩
    have kA := fun h' => kA d (by have := hx i hi; omega) h'
    have hpi := hps i
    have hsi := hs i
    rw [hd, show (d : Int).toNat = d from rfl] at hpi
    rw [← hd] at kA
    have hoi : o i < 65536 := Nat.lt_of_lt_of_le (hl i) (Nat.pow_le_pow_right (n := 2) (by omega) (by omega : i ≤ 16))
    have h2i : 2 ^ i < 65536 := Nat.pow_lt_pow_right (a := 2) (by omega) (by omega : i < 16)
    have eor : IntKind.i64.wrap (((BitVec.ofInt IntKind.i64.bits (o i : Int) ||| BitVec.ofInt IntKind.i64.bits (IntKind.i64.wrap (1 * 2 ^ min (i : Int).toNat IntKind.i64.bits))).toNat : Nat) : Int) = ((o i ||| 2 ^ i : Nat) : Int) := by rw [shl64 (by omega), or64 hoi h2i]
    generalize plc p d m = z at *
    by_cases hz : z = y i
    · rw [hpi, if_pos (decide_eq_true hz)] at hsi
      rw [← hsi] at eor
      (conv => whnf); (repeat' (first | ((with_reducible refine ifb_mk (fun hc => ?_) (fun hc => ?_)) <;> ((try simp only [decide_eq_true_eq, decide_eq_false_iff_not, Bool.not_eq_true', Bool.not_eq_false', Int.not_lt, Int.not_le, ne_eq, Decidable.not_not, beq_iff_eq, List.cons.injEq, and_true] at hc); (first | (exfalso; omega) | exact absurd True.intro hc | conv => whnf))) | ((with_reducible refine And.intro True.intro ?_); conv => whnf) | ((with_reducible refine grd_and ?_); refine And.intro (hi) ?_; conv => whnf) | ((with_reducible refine CallX.all ?_); refine CallW.of_ok (kA _) ?_; conv => whnf) | ((with_reducible refine grd_ex ?_); refine ex_ok (kA _) ?_; conv => whnf) | ((with_reducible refine WpR.draw (id := 5) mixed [0, 1, 2, 3, 4, 5, 7, 8, 9, 10, 11, 6, 12] [0, 0, 0, 6, 14, 30, 63, 0, 0, 384, 896, 1920, 4095] ?hh ?_); (case hh => kernel_rfl); conv => whnf) | ((with_reducible refine And.intro ?hh ?_); (case hh => exact condA); conv => whnf) | fail))
      all_goals first | (exfalso; omega) | exact ⟨(i + 1, _), [], by dsimp only; omega, ⟨by dsimp only; omega, eor⟩, Back.auto⟩
    · rw [hpi, decide_eq_false hz, if_neg (by decide)] at hsi
      (conv => whnf); (repeat' (first | ((with_reducible refine ifb_mk (fun hc => ?_) (fun hc => ?_)) <;> ((try simp only [decide_eq_true_eq, decide_eq_false_iff_not, Bool.not_eq_true', Bool.not_eq_false', Int.not_lt, Int.not_le, ne_eq, Decidable.not_not, beq_iff_eq, List.cons.injEq, and_true] at hc); (first | (exfalso; omega) | exact absurd True.intro hc | conv => whnf))) | ((with_reducible refine And.intro True.intro ?_); conv => whnf) | ((with_reducible refine grd_and ?_); refine And.intro (hi) ?_; conv => whnf) | ((with_reducible refine CallX.all ?_); refine CallW.of_ok (kA _) ?_; conv => whnf) | ((with_reducible refine grd_ex ?_); refine ex_ok (kA _) ?_; conv => whnf) | ((with_reducible refine WpR.draw (id := 5) mixed [0, 1, 2, 3, 4, 5, 7, 8, 9, 10, 11, 6, 12] [0, 0, 0, 6, 14, 30, 63, 0, 0, 384, 896, 1920, 4095] ?hh ?_); (case hh => kernel_rfl); conv => whnf) | ((with_reducible refine And.intro ?hh ?_); (case hh => exact condA); conv => whnf) | fail))
      all_goals first | (exfalso; omega) | exact ⟨(i + 1, (o i : Int)), [], by dsimp only; omega, ⟨by dsimp only; omega, by dsimp only; rw [hsi]⟩, Back.auto⟩
  · have e : i = n := by omega
    subst e
    (conv => whnf); (repeat' (first | ((with_reducible refine ifb_mk (fun hc => ?_) (fun hc => ?_)) <;> ((try simp only [decide_eq_true_eq, decide_eq_false_iff_not, Bool.not_eq_true', Bool.not_eq_false', Int.not_lt, Int.not_le, ne_eq, Decidable.not_not, beq_iff_eq, List.cons.injEq, and_true] at hc); (first | (exfalso; omega) | exact absurd True.intro hc | conv => whnf))) | ((with_reducible refine And.intro True.intro ?_); conv => whnf) | ((with_reducible refine grd_and ?_); refine And.intro (hi) ?_; conv => whnf) | ((with_reducible refine And.intro ?hh ?_); (case hh => exact condA); conv => whnf) | fail))
    all_goals first | (exfalso; omega) | (refine ⟨[], ?_, rfl, rfl, trivial, trivs⟩; simp only [renV, renL]; (first | done | rfl | (simp; done) | (simp; omega) | grind))
theorem shr_zero {g i : Nat} (h : g >>> i = 0) : g < 2 ^ i := by
  rw [Nat.shiftRight_eq_div_pow] at h
  exact (Nat.div_eq_zero_iff_lt (Nat.two_pow_pos i)).1 h
theorem and_one (g i : Nat) : g >>> i &&& 1 = if g.testBit i = true then 1 else 0 := by
  unfold Nat.testBit
  rw [Nat.and_comm 1, Nat.and_one_is_mod]
  rcases Nat.mod_two_eq_zero_or_one (g >>> i) with e | e <;> rw [e] <;> rfl
set_option maxHeartbeats 4000000 in
theorem sizeR_ok (h : As.H) (g : Nat) (hg : g < 4096) : CallOk Try.prog 42 [.int .i64 g] h (.int .i64 (pcN g 16)) h := by
  have hcs : ∀ i, cnF g.testBit (i + 1) = cnF g.testBit i + (if g.testBit i = true then 1 else 0) := fun i => rfl
  have hc0 : cnF g.testBit 0 = 0 := rfl
  have hend : ∀ i, i ≤ 16 → g >>> i = 0 → pcN g 16 = cnF g.testBit i := fun i hi h => cnF_low (shr_zero h) hi
  have h12 : ∀ i, 12 ≤ i → g >>> i = 0 := fun i hi => by
    rw [Nat.shiftRight_eq_div_pow]
    exact Nat.div_eq_of_lt (Nat.lt_of_lt_of_le hg (Nat.pow_le_pow_right (n := 2) (by omega) hi))
  have hb := and_one g
  have hcl := fun i => cnF_le g.testBit i
  have hsl : ∀ i, g >>> i < 65536 := fun i => Nat.lt_of_le_of_lt (by rw [Nat.shiftRight_eq_div_pow]; exact Nat.div_le_self _ _) (by omega : g < 65536)
  generalize cnF g.testBit = c at *
  generalize pcN g 16 = R at *
  refine CallOk.run0 Try.func42 rfl rfl rfl rfl rfl (WpR.of_vc ?_)
  (conv => whnf); (repeat' (first | ((with_reducible refine ifb_mk (fun hc => ?_) (fun hc => ?_)) <;> ((try simp only [decide_eq_true_eq, decide_eq_false_iff_not, Bool.not_eq_true', Bool.not_eq_false', Int.not_lt, Int.not_le, ne_eq, Decidable.not_not, beq_iff_eq, List.cons.injEq, and_true] at hc); (first | (exfalso; omega) | exact absurd True.intro hc | conv => whnf))) | ((with_reducible refine And.intro True.intro ?_); conv => whnf) | ((with_reducible refine And.intro ?hh ?_); (case hh => exact condA); conv => whnf) | fail))
  refine WpR.loopA (ι := Nat × Int) [] [0] [] [] 0 (fun q => [(4, .int .i64 q.1), (3, .int .i64 q.2)]) (fun _ => []) (fun q => 13 - q.1) (fun q => q.1 ≤ 12 ∧ q.2 = c q.1) ?_ ((0, 0)) (⟨Nat.zero_le _, by rw [hc0]; rfl⟩) [] Back.auto
  rintro ⟨i, s⟩ ⟨j1, j2⟩
  dsimp only at j1 j2
  subst j2
  refine WpR.of_vc ?_
  have e1 := shr64 (a := g) (s := i) (by omega)
  have hcli := hcl i
  have hcsi := hcs i
  by_cases hz : g >>> i = 0
  · have e := hend i (by omega) hz
    subst e
    have hgd : ¬ (0 < (g : Int).fdiv (2 ^ min (i : Int).toNat IntKind.i64.bits)) := by rw [e1]; omega
    (conv => whnf); (repeat' (first | ((with_reducible refine ifb_mk (fun hc => ?_) (fun hc => ?_)) <;> ((try simp only [decide_eq_true_eq, decide_eq_false_iff_not, Bool.not_eq_true', Bool.not_eq_false', Int.not_lt, Int.not_le, ne_eq, Decidable.not_not, beq_iff_eq, List.cons.injEq, and_true] at hc); (first | (exfalso; omega) | exact absurd True.intro hc | conv => whnf))) | ((with_reducible refine And.intro True.intro ?_); conv => whnf) | ((with_reducible refine And.intro ?hh ?_); (case hh => exact condA); conv => whnf) | fail))
    all_goals first | (exact absurd (by assumption) hgd) | (exfalso; omega) | (refine ⟨[], ?_, rfl, rfl, trivial, trivs⟩; simp only [renV, renL]; (first | done | rfl | (simp; done) | (simp; omega) | grind))
  · have hi12 : i < 12 := by
      apply Classical.byContradiction
      intro hc
      exact hz (h12 i (by omega))
    have hgd : 0 < (g : Int).fdiv (2 ^ min (i : Int).toNat IntKind.i64.bits) := by rw [e1]; exact Int.ofNat_lt.2 (Nat.pos_of_ne_zero hz)
    have eand : IntKind.i64.wrap (((BitVec.ofInt IntKind.i64.bits ((g : Int).fdiv (2 ^ min (i : Int).toNat IntKind.i64.bits)) &&& BitVec.ofInt IntKind.i64.bits (1 : Int)).toNat : Nat) : Int) = ((c (i + 1) : Nat) : Int) - c i := by
      rw [e1]
      have := and64 (a := g >>> i) (b := 1) (hsl i) (by decide)
      rw [show ((1 : Nat) : Int) = 1 from rfl] at this
      have hd : ((if g.testBit i = true then 1 else 0 : Nat) : Int) = ((c (i + 1) : Nat) : Int) - c i := by rw [hcsi]; omega
      rw [this, hb i]
      exact hd
    have hle : c (i + 1) ≤ c i + 1 := by rw [hcsi]; split <;> omega
    have hge : c i ≤ c (i + 1) := by rw [hcsi]; omega
    have y1 : InR ((c i : Int) + IntKind.i64.wrap (((BitVec.ofInt IntKind.i64.bits ((g : Int).fdiv (2 ^ min (i : Int).toNat IntKind.i64.bits)) &&& BitVec.ofInt IntKind.i64.bits (1 : Int)).toNat : Nat) : Int)) := by rw [eand]; unfold InR; omega
    have y2 : (c i : Int) + IntKind.i64.wrap (((BitVec.ofInt IntKind.i64.bits ((g : Int).fdiv (2 ^ min (i : Int).toNat IntKind.i64.bits)) &&& BitVec.ofInt IntKind.i64.bits (1 : Int)).toNat : Nat) : Int) = c (i + 1) := by rw [eand]; omega
    (conv => whnf); (repeat' (first | ((with_reducible refine ifb_mk (fun hc => ?_) (fun hc => ?_)) <;> ((try simp only [decide_eq_true_eq, decide_eq_false_iff_not, Bool.not_eq_true', Bool.not_eq_false', Int.not_lt, Int.not_le, ne_eq, Decidable.not_not, beq_iff_eq, List.cons.injEq, and_true] at hc); (first | (exfalso; omega) | exact absurd True.intro hc | conv => whnf))) | ((with_reducible refine And.intro True.intro ?_); conv => whnf) | ((with_reducible refine grd_and ?_); refine And.intro (y1) ?_; conv => whnf) | ((with_reducible refine And.intro ?hh ?_); (case hh => exact condA); conv => whnf) | fail))
    all_goals first | (exact absurd hgd (by assumption)) | (exfalso; omega) | exact ⟨(i + 1, _), [], by dsimp only; omega, ⟨by dsimp only; omega, y2⟩, Back.auto⟩
end Go.Proofs.K
namespace Go.Proofs.K
open Go.As
set_option maxRecDepth 20000
def evF (c : Nat → Int) : Nat → Int → Int
  | 0, _ => 0
  | n + 1, x => c 0 + x * evF (fun k => c (k + 1)) n x
def Po (n : Nat) (f : Int → Int) : Prop := ∃ c, ∀ x, f x = evF c n x
theorem evF_add : ∀ n c d x, evF (fun k => c k + d k) n x = evF c n x + evF d n x
  | 0, _, _, _ => rfl
  | n + 1, c, d, x => by
    have ih := evF_add n (fun k => c (k + 1)) (fun k => d (k + 1)) x
    show c 0 + d 0 + x * evF (fun k => c (k + 1) + d (k + 1)) n x = (c 0 + x * _) + (d 0 + x * _)
    rw [ih, Int.mul_add]; omega
theorem evF_mul (m : Int) : ∀ n c x, evF (fun k => m * c k) n x = m * evF c n x
  | 0, _, _ => (Int.mul_zero m).symm
  | n + 1, c, x => by
    have ih := evF_mul m n (fun k => c (k + 1)) x
    show m * c 0 + x * evF (fun k => m * c (k + 1)) n x = m * (c 0 + x * _)
    rw [ih, Int.mul_add, Int.mul_left_comm]
theorem evF_low : ∀ n c x, evF (fun k => if k < n then c k else 0) (n + 1) x = evF c n x
  | 0, c, x => by show 0 + x * 0 = (0 : Int); omega
  | n + 1, c, x => by
    have ih := evF_low n (fun k => c (k + 1)) x
    have e : (fun k => if k + 1 < n + 1 then c (k + 1) else 0) = fun k => if k < n then c (k + 1) else 0 := funext fun k => by
      by_cases h : k < n
      · rw [if_pos h, if_pos (by omega)]
      · rw [if_neg h, if_neg (by omega)]
    show (if 0 < n + 1 then c 0 else 0) + x * evF (fun k => if k + 1 < n + 1 then c (k + 1) else 0) (n + 1) x = c 0 + x * _
    rw [e, ih, if_pos (by omega)]
theorem Po.add {n : Nat} {f g : Int → Int} (hf : Po n f) (hg : Po n g) : Po n fun x => f x + g x := by
  obtain ⟨c, hc⟩ := hf
  obtain ⟨d, hd⟩ := hg
  exact ⟨_, fun x => by rw [evF_add n c d, ← hc, ← hd]⟩
theorem Po.mul {n : Nat} {f : Int → Int} (m : Int) (hf : Po n f) : Po n fun x => m * f x := by
  obtain ⟨c, hc⟩ := hf
  exact ⟨_, fun x => by rw [evF_mul m n c, ← hc]⟩
theorem Po.up {n : Nat} {f : Int → Int} (hf : Po n f) : Po (n + 1) f := by
  obtain ⟨c, hc⟩ := hf
  exact ⟨_, fun x => by rw [evF_low n c, hc]⟩
theorem Po.le {n m : Nat} {f : Int → Int} (h : n ≤ m) (hf : Po n f) : Po m f := by
  induction m with
  | zero => have : n = 0 := by omega
            subst this; exact hf
  | succ m ih =>
    by_cases e : n = m + 1
    · subst e; exact hf
    · exact (ih (by omega)).up
theorem Po.var {n : Nat} {f : Int → Int} (hf : Po n f) : Po (n + 1) fun x => x * f x := by
  obtain ⟨c, hc⟩ := hf
  refine ⟨fun k => match k with | 0 => 0 | k + 1 => c k, fun x => ?_⟩
  show x * f x = 0 + x * evF c n x
  rw [hc]; omega
theorem Po.sub {n : Nat} {f : Int → Int} (r : Int) (hf : Po n f) : Po (n + 1) fun x => f x * (x - r) := by
  obtain ⟨c, hc⟩ := hf.var.add (hf.up.mul (-r))
  refine ⟨c, fun x => ?_⟩
  rw [← hc]
  show f x * (x - r) = x * f x + -r * f x
  rw [Int.mul_sub, Int.neg_mul, Int.mul_comm x, Int.mul_comm r]; omega
theorem Po.const (m : Int) : Po 1 fun _ => m := ⟨fun _ => m, fun x => by show m = m + x * 0; omega⟩
theorem Po.zero (n : Nat) : Po n fun _ => 0 := by
  refine ⟨fun _ => 0, fun x => ?_⟩
  induction n with
  | zero => rfl
  | succ n ih =>
    show (0 : Int) = 0 + x * evF (fun _ => 0) n x
    have ih : (0 : Int) = evF (fun _ => 0) n x := ih
    rw [← ih, Int.mul_zero]; rfl
theorem evF_div : ∀ n (c : Nat → Int) (r : Int), ∃ q : Nat → Int, ∀ x, evF c (n + 1) x = evF c (n + 1) r + (x - r) * evF q n x
  | 0, c, r => ⟨fun _ => 0, fun x => by show c 0 + x * 0 = c 0 + r * 0 + (x - r) * 0; omega⟩
  | n + 1, c, r => by
    obtain ⟨q, hq⟩ := evF_div n (fun k => c (k + 1)) r
    refine ⟨fun k => match k with | 0 => evF (fun k => c (k + 1)) (n + 1) r | k + 1 => q k, fun x => ?_⟩
    show c 0 + x * evF (fun k => c (k + 1)) (n + 1) x = c 0 + r * evF (fun k => c (k + 1)) (n + 1) r + (x - r) * (evF (fun k => c (k + 1)) (n + 1) r + x * evF q n x)
    rw [hq x]
    generalize evF (fun k => c (k + 1)) (n + 1) r = E
    generalize evF q n x = Q
    grind
theorem Po.none : ∀ {n : Nat} {f : Int → Int}, Po n f → ∀ z : Nat → Int, (∀ i j, i < n → j < i → z j ≠ z i) → (∀ i, i < n → f (z i) = 0) → ∀ x, f x = 0
  | 0, f, hf, z, _, _, x => by obtain ⟨c, hc⟩ := hf; exact hc x
  | n + 1, f, hf, z, hd, hz, x => by
    obtain ⟨c, hc⟩ := hf
    obtain ⟨q, hq⟩ := evF_div n c (z n)
    have h0 : evF c (n + 1) (z n) = 0 := by rw [← hc]; exact hz n (by omega)
    have ih := Po.none (n := n) (f := evF q n) ⟨q, fun _ => rfl⟩ z (fun i j hi hj => hd i j (by omega) hj) (fun i hi => by
      have h1 := hz i (by omega)
      rw [hc, hq, h0, Int.zero_add] at h1
      rcases Int.mul_eq_zero.1 h1 with h | h
      · exact absurd (show z i = z n by omega) (hd n i (by omega) hi)
      · exact h) x
    rw [hc, hq, h0, ih, Int.mul_zero]; rfl
def cfP : Nat → Int
  | 0 => 6
  | 1 => 6
  | 2 => 3
  | _ => 1
def nwP : Nat → Int → Int
  | 0, _ => 1
  | k + 1, x => nwP k x * (x - k)
def pzP (p : Nat → Int) : Nat → Int → Int
  | 0, _ => 0
  | n + 1, x => pzP p n x + cfP n * p n * nwP n x
theorem nw_all : ((List.range 100).all fun d => (List.range 4).all fun k => decide (6 * (wy d k : Int) = cfP k * nwP k d)) = true := by decide +kernel
theorem nw_at {d k : Nat} (hd : d < 100) (hk : k < 4) : 6 * (wy d k : Int) = cfP k * nwP k d :=
  of_decide_eq_true (List.all_eq_true.1 (List.all_eq_true.1 nw_all d (List.mem_range.2 hd)) k (List.mem_range.2 hk))
theorem nw_po : ∀ k, Po (k + 1) (nwP k)
  | 0 => Po.const 1
  | k + 1 => (nw_po k).sub k
theorem pz_po (p : Nat → Int) : ∀ n, Po n (pzP p n)
  | 0 => Po.zero 0
  | n + 1 => ((pz_po p n).up).add ((nw_po n).mul _)
theorem pz_at {p : Nat → Int} {d : Nat} (hd : d < 100) : ∀ n, n ≤ 4 → 6 * plc p d n = pzP p n d
  | 0, _ => rfl
  | n + 1, h => by
    have ih := pz_at (p := p) hd n (by omega)
    have h1 := nw_at (d := d) (k := n) hd (by omega)
    show 6 * (plc p d n + p n * wy d n) = pzP p n d + cfP n * p n * nwP n d
    rw [← ih, Int.mul_add, Int.mul_left_comm 6, h1, Int.mul_assoc, Int.mul_left_comm (p n)]
section
variable {n : Nat} {x y : Nat → Int}
theorem tm_po (x : Nat → Int) (i : Nat) : ∀ j, Po (if i < j then j else j + 1) fun d => tmP x d i j
  | 0 => by rw [if_neg (Nat.not_lt_zero _)]; exact Po.const 1
  | j + 1 => by
    have ih := tm_po x i j
    by_cases e : j = i
    · subst e
      rw [if_neg (Nat.lt_irrefl _)] at ih
      rw [if_pos (Nat.lt_succ_self _)]
      have : (fun d => tmP x d j (j + 1)) = fun d => tmP x d j j := funext fun d => by
        show tmP x d j j * (if j = j then 1 else d - x j) = _
        rw [if_pos rfl, Int.mul_one]
      rw [this]; exact ih
    · have h2 : (fun d => tmP x d i (j + 1)) = fun d => tmP x d i j * (d - x j) := funext fun d => by
        show tmP x d i j * (if j = i then 1 else d - x j) = _
        rw [if_neg e]
      rw [h2]
      by_cases h : i < j
      · rw [if_pos h] at ih
        rw [if_pos (by omega)]
        exact ih.sub _
      · rw [if_neg h] at ih
        rw [if_neg (by omega)]
        exact ih.sub _
theorem nu_po (n : Nat) (x y : Nat → Int) : ∀ i, i ≤ n → Po n fun d => nuP n x y d i
  | 0, _ => Po.zero n
  | i + 1, h => by
    have ih := nu_po n x y i (by omega)
    have h1 := tm_po x i n
    rw [if_pos (by omega)] at h1
    have h2 := h1.mul (y i * trP (gq x i n) n)
    have e : (fun d => nuP n x y d (i + 1)) = fun d => nuP n x y d i + (y i * trP (gq x i n) n) * tmP x d i n := funext fun d => by
      show nuP n x y d i + y i * tmP x d i n * trP (gq x i n) n = _
      rw [Int.mul_right_comm]
    rw [e]
    exact ih.add h2
theorem tm_zero {m i : Nat} (hm : m ≠ i) : ∀ j, m < j → tmP x (x m) i j = 0
  | 0, h => absurd h (Nat.not_lt_zero _)
  | j + 1, h => by
    show tmP x (x m) i j * (if j = i then 1 else x m - x j) = 0
    by_cases e : m = j
    · subst e
      rw [if_neg hm, Int.sub_self, Int.mul_zero]
    · rw [tm_zero hm j (by omega), Int.zero_mul]
theorem tm_self {i : Nat} (hi : i < n) : ∀ j, j ≤ n → tmP x (x i) i j * trP (gq x i j) n = trP (df x) n
  | 0, _ => by
    show 1 * _ = _
    rw [gq_zero, Int.one_mul]
  | j + 1, h => by
    have ih := tm_self hi j (by omega)
    show tmP x (x i) i j * (if j = i then 1 else x i - x j) * _ = _
    by_cases e : j = i
    · subst e
      rw [if_pos rfl, Int.mul_one, ← gq_skip]; exact ih
    · rw [if_neg e, ← ih, gq_step x hi (by omega) e, Int.mul_assoc, Int.mul_comm (x i - x j)]
theorem nu_node {m : Nat} (hm : m < n) : ∀ i, i ≤ n → nuP n x y (x m) i = if m < i then y m * trP (df x) n else 0
  | 0, _ => by rw [if_neg (Nat.not_lt_zero _)]; rfl
  | i + 1, h => by
    have ih := nu_node hm i (by omega)
    show nuP n x y (x m) i + y i * tmP x (x m) i n * trP (gq x i n) n = _
    by_cases e : m = i
    · subst e
      rw [ih, if_neg (Nat.lt_irrefl _), if_pos (Nat.lt_succ_self _), Int.mul_assoc, tm_self hm n (Nat.le_refl _), Int.zero_add]
    · rw [tm_zero e n hm, Int.mul_zero, Int.zero_mul, Int.add_zero, ih]
      by_cases h1 : m < i
      · rw [if_pos h1, if_pos (by omega)]
      · rw [if_neg h1, if_neg (by omega)]
theorem nu_node' {m : Nat} (hm : m < n) : nuP n x y (x m) n = y m * trP (df x) n := by rw [nu_node hm n (Nat.le_refl _), if_pos hm]
theorem cs_plc (q : Nat → Int) : ∀ n, n ≤ 4 → ∀ d, d < n → plc (csP n q) d n = q d
  | 0, _, d, h => absurd h (Nat.not_lt_zero _)
  | 1, _, d, h => by
    match d, h with
    | 0, _ => show 0 + q 0 * 1 = q 0; omega
  | 2, _, d, h => by
    match d, h with
    | 0, _ => show 0 + q 0 * 1 + (q 1 - q 0) * 0 = q 0; omega
    | 1, _ => show 0 + q 0 * 1 + (q 1 - q 0) * 1 = q 1; omega
  | 3, _, d, h => by
    match d, h with
    | 0, _ => show 0 + q 0 * 1 + (q 1 - q 0) * 0 + (q 2 - q 1 - (q 1 - q 0)) * 0 = q 0; omega
    | 1, _ => show 0 + q 0 * 1 + (q 1 - q 0) * 1 + (q 2 - q 1 - (q 1 - q 0)) * 0 = q 1; omega
    | 2, _ => show 0 + q 0 * 1 + (q 1 - q 0) * 2 + (q 2 - q 1 - (q 1 - q 0)) * 1 = q 2; omega
  | 4, _, d, h => by
    match d, h with
    | 0, _ => show 0 + q 0 * 1 + (q 1 - q 0) * 0 + (q 2 - q 1 - (q 1 - q 0)) * 0 + (q 3 - q 2 - (q 2 - q 1) - (q 2 - q 1 - (q 1 - q 0))) * 0 = q 0; omega
    | 1, _ => show 0 + q 0 * 1 + (q 1 - q 0) * 1 + (q 2 - q 1 - (q 1 - q 0)) * 0 + (q 3 - q 2 - (q 2 - q 1) - (q 2 - q 1 - (q 1 - q 0))) * 0 = q 1; omega
    | 2, _ => show 0 + q 0 * 1 + (q 1 - q 0) * 2 + (q 2 - q 1 - (q 1 - q 0)) * 1 + (q 3 - q 2 - (q 2 - q 1) - (q 2 - q 1 - (q 1 - q 0))) * 0 = q 2; omega
    | 3, _ => show 0 + q 0 * 1 + (q 1 - q 0) * 3 + (q 2 - q 1 - (q 1 - q 0)) * 3 + (q 3 - q 2 - (q 2 - q 1) - (q 2 - q 1 - (q 1 - q 0))) * 1 = q 3; omega
  | n + 5, h, _, _ => by omega
theorem plc_cs (p q : Nat → Int) : ∀ n, n ≤ 4 → (∀ d, d < n → q d = plc p d n) → ∀ k, k < n → csP n q k = p k
  | 0, _, _, k, h => absurd h (Nat.not_lt_zero _)
  | 1, _, hq, k, h => by
    have h0 : q 0 = 0 + p 0 * 1 := hq 0 (by omega)
    match k, h with
    | 0, _ => show q 0 = p 0; omega
  | 2, _, hq, k, h => by
    have h0 : q 0 = 0 + p 0 * 1 + p 1 * 0 := hq 0 (by omega)
    have h1 : q 1 = 0 + p 0 * 1 + p 1 * 1 := hq 1 (by omega)
    match k, h with
    | 0, _ => show q 0 = p 0; omega
    | 1, _ => show q 1 - q 0 = p 1; omega
  | 3, _, hq, k, h => by
    have h0 : q 0 = 0 + p 0 * 1 + p 1 * 0 + p 2 * 0 := hq 0 (by omega)
    have h1 : q 1 = 0 + p 0 * 1 + p 1 * 1 + p 2 * 0 := hq 1 (by omega)
    have h2 : q 2 = 0 + p 0 * 1 + p 1 * 2 + p 2 * 1 := hq 2 (by omega)
    match k, h with
    | 0, _ => show q 0 = p 0; omega
    | 1, _ => show q 1 - q 0 = p 1; omega
    | 2, _ => show q 2 - q 1 - (q 1 - q 0) = p 2; omega
  | 4, _, hq, k, h => by
    have h0 : q 0 = 0 + p 0 * 1 + p 1 * 0 + p 2 * 0 + p 3 * 0 := hq 0 (by omega)
    have h1 : q 1 = 0 + p 0 * 1 + p 1 * 1 + p 2 * 0 + p 3 * 0 := hq 1 (by omega)
    have h2 : q 2 = 0 + p 0 * 1 + p 1 * 2 + p 2 * 1 + p 3 * 0 := hq 2 (by omega)
    have h3 : q 3 = 0 + p 0 * 1 + p 1 * 3 + p 2 * 3 + p 3 * 1 := hq 3 (by omega)
    match k, h with
    | 0, _ => show q 0 = p 0; omega
    | 1, _ => show q 1 - q 0 = p 1; omega
    | 2, _ => show q 2 - q 1 - (q 1 - q 0) = p 2; omega
    | 3, _ => show q 3 - q 2 - (q 2 - q 1) - (q 2 - q 1 - (q 1 - q 0)) = p 3; omega
  | n + 5, h, _, _, _ => by omega
theorem th_on (h : Dy n x) (hw : alW n x y = true) {m : Nat} (hm : m < n) : plc (thP n x y) (x m).toNat n = y m := by
  have h4 := h.le
  have hD := den_pos h
  have e0 : thP n x y = csP n (qP n x y) := by unfold thP; rw [hw]
  rw [e0]
  have hq : ∀ d : Nat, d < n → trP (df x) n * qP n x y d = nuP n x y d n := fun d hd => by
    have h1 : whP n x y d = true := allF_iff.1 hw d hd
    have h2 : (nuP n x y d n).tmod (trP (df x) n) = 0 := of_decide_eq_true h1
    have h3 := Int.mul_tdiv_add_tmod (nuP n x y d n) (trP (df x) n)
    rw [h2, Int.add_zero] at h3
    exact h3
  have hz := (((nu_po n x y n (Nat.le_refl _)).mul 6).add ((pz_po (csP n (qP n x y)) n).mul (-(trP (df x) n)))).none (fun i => (i : Int)) (fun i j hi hj => by omega) (fun i hi => by
    show 6 * nuP n x y (i : Int) n + -(trP (df x) n) * pzP _ n (i : Int) = 0
    rw [← pz_at (by omega) n h4, cs_plc _ n h4 i hi, ← hq i hi, Int.neg_mul, Int.mul_left_comm]
    omega) (x m)
  have hz' : 6 * nuP n x y (x m) n + -(trP (df x) n) * pzP (csP n (qP n x y)) n (x m) = 0 := hz
  have hr := h.rg m hm
  have e1 : x m = ((x m).toNat : Int) := by omega
  rw [nu_node' hm] at hz'
  have e2 : pzP (csP n (qP n x y)) n (x m) = 6 * plc (csP n (qP n x y)) (x m).toNat n := by rw [pz_at (by omega) n h4, ← e1]
  rw [e2] at hz'
  generalize plc (csP n (qP n x y)) (x m).toNat n = P at *
  generalize trP (df x) n = D at *
  have h5 : 6 * D * (y m - P) = 0 := by grind
  rcases Int.mul_eq_zero.1 h5 with h6 | h6 <;> omega
theorem th_of (h : Dy n x) (p : Nat → Int) (hp : ∀ m, m < n → plc p (x m).toNat n = y m) : alW n x y = true ∧ ∀ k, k < n → thP n x y k = p k := by
  have h4 := h.le
  have hD := den_pos h
  have hz := (((nu_po n x y n (Nat.le_refl _)).mul 6).add ((pz_po p n).mul (-(trP (df x) n)))).none x (fun i j hi hj => by have := h.up i j hi hj; omega) (fun i hi => by
    have hr := h.rg i hi
    show 6 * nuP n x y (x i) n + -(trP (df x) n) * pzP p n (x i) = 0
    have e1 : x i = ((x i).toNat : Int) := by omega
    have e2 : pzP p n (x i) = 6 * plc p (x i).toNat n := by rw [pz_at (by omega) n h4, ← e1]
    rw [nu_node' hi, e2, hp i hi]
    grind)
  have hq : ∀ d : Nat, d < 100 → nuP n x y d n = trP (df x) n * plc p d n := fun d hd => by
    have h1 : 6 * nuP n x y (d : Int) n + -(trP (df x) n) * pzP p n (d : Int) = 0 := hz d
    rw [← pz_at hd n h4] at h1
    generalize plc p d n = P at *
    generalize trP (df x) n = D at *
    generalize nuP n x y (d : Int) n = N at *
    grind
  have hw : alW n x y = true := allF_t fun d hd => by
    unfold whP
    rw [hq d (by omega), Int.mul_tmod_right]
    rfl
  refine ⟨hw, fun k hk => ?_⟩
  have e0 : thP n x y = csP n (qP n x y) := by unfold thP; rw [hw]
  rw [e0]
  refine plc_cs p _ n h4 (fun d hd => ?_) k hk
  unfold qP
  rw [hq d (by omega), Int.mul_tdiv_cancel_left _ (by omega)]
end
end Go.Proofs.K
namespace Go.Proofs.K
open Go.As
set_option maxRecDepth 20000
section
variable {p q : Nat → Bool}
theorem cnF_sub : ∀ n, (∀ i, i < n → p i = true → q i = true) → cnF p n ≤ cnF q n
  | 0, _ => Nat.le_refl _
  | n + 1, h => by
    have ih := cnF_sub n fun i hi => h i (by omega)
    have h1 := h n (by omega)
    show cnF p n + (if p n = true then 1 else 0) ≤ cnF q n + (if q n = true then 1 else 0)
    by_cases e : p n = true
    · rw [if_pos e, if_pos (h1 e)]; omega
    · rw [if_neg e]; omega
theorem cnF_full : ∀ n, cnF p n = n → ∀ i, i < n → p i = true
  | 0, _, i, h => absurd h (Nat.not_lt_zero _)
  | n + 1, h, i, hi => by
    have h0 := cnF_le p n
    have h1 : cnF p n + (if p n = true then 1 else 0) = n + 1 := h
    by_cases e : p n = true
    · rw [if_pos e] at h1
      by_cases ei : i = n
      · rw [ei]; exact e
      · exact cnF_full n (by omega) i (by omega)
    · rw [if_neg e] at h1; omega
theorem slF_at {n i : Nat} (hi : i < n) (hp : p i = true) : cnF p i < cnF p n ∧ ∀ a, slF p a n (cnF p i) = a i := by
  have h1 := (slF_yes (a := fun _ => 0) hp).1
  have h2 := cnF_mono (p := p) (show i + 1 ≤ n by omega)
  have h3 : cnF p i < cnF p n := by omega
  obtain ⟨m, g1, g2, g3, g4⟩ := slF_mem n _ h3
  have h4 := (slF_yes (a := fun _ => 0) g2).1
  rcases Nat.lt_trichotomy m i with h | h | h
  · have := cnF_mono (p := p) (show m + 1 ≤ i by omega); omega
  · subst h; exact ⟨h3, g3⟩
  · have := cnF_mono (p := p) (show i + 1 ≤ m by omega); omega
def fsF (p : Nat → Bool) (m : Nat) (i : Nat) : Bool := p i && decide (cnF p i < m)
theorem fs_cn (m : Nat) : ∀ n, cnF (fsF p m) n = min (cnF p n) m
  | 0 => by show 0 = min 0 m; omega
  | n + 1 => by
    have ih := fs_cn m n
    show cnF (fsF p m) n + (if fsF p m n = true then 1 else 0) = min (cnF p n + (if p n = true then 1 else 0)) m
    rw [ih]
    unfold fsF
    by_cases e : p n = true
    · rw [e, if_pos rfl, Bool.true_and]
      by_cases h : cnF p n < m
      · rw [decide_eq_true h, if_pos rfl]; omega
      · rw [decide_eq_false h, if_neg Bool.false_ne_true]; omega
    · rw [Bool.not_eq_true] at e
      rw [e, Bool.false_and, if_neg Bool.false_ne_true]; omega
def bnF : (Nat → Bool) → Nat → Nat
  | _, 0 => 0
  | p, n + 1 => 2 * bnF (fun i => p (i + 1)) n + (p 0).toNat
theorem bn_lt : ∀ (n : Nat) (p : Nat → Bool), bnF p n < 2 ^ n
  | 0, _ => Nat.one_pos
  | n + 1, p => by
    have ih := bn_lt n fun i => p (i + 1)
    have h1 : (p 0).toNat ≤ 1 := by cases p 0 <;> decide
    show 2 * bnF (fun i => p (i + 1)) n + (p 0).toNat < 2 ^ (n + 1)
    rw [Nat.pow_succ]; omega
theorem bn_bit : ∀ (n : Nat) (p : Nat → Bool) (i : Nat), i < n → (bnF p n).testBit i = p i
  | 0, _, i, h => absurd h (Nat.not_lt_zero _)
  | n + 1, p, i, h => by
    have h1 : (p 0).toNat ≤ 1 := by cases p 0 <;> decide
    match i, h with
    | 0, _ =>
      show Nat.testBit (2 * bnF (fun i => p (i + 1)) n + (p 0).toNat) 0 = p 0
      rw [Nat.testBit_zero]
      cases p 0 with
      | true => exact decide_eq_true (by show (2 * _ + 1) % 2 = 1; omega)
      | false => exact decide_eq_false (by show ¬ (2 * _ + 0) % 2 = 1; omega)
    | i + 1, h =>
      show Nat.testBit (2 * bnF (fun i => p (i + 1)) n + (p 0).toNat) (i + 1) = p (i + 1)
      rw [Nat.testBit_succ, show (2 * bnF (fun i => p (i + 1)) n + (p 0).toNat) / 2 = bnF (fun i => p (i + 1)) n from by omega]
      exact bn_bit n (fun i => p (i + 1)) i (by omega)
end
theorem plc_z {p : Nat → Int} {m d : Nat} (hm : m ≤ 4) (hz : ∀ k, m ≤ k → k < 4 → p k = 0) : plc p d 4 = plc p d m := by
  rw [← plc_cut (m := m) (a := p) 4 hm]
  refine plc_congr 4 fun k hk => ?_
  unfold cut
  by_cases h : k < m
  · rw [if_pos h]
  · rw [if_neg h, hz k (by omega) hk]
theorem th_z {n : Nat} {x y : Nat → Int} {k : Nat} (h : n ≤ k) : thP n x y k = 0 := by
  unfold thP
  cases alW n x y with
  | true => show cut n _ k = 0; unfold cut; rw [if_neg (by omega)]
  | false => rfl
theorem c4_f4 {p : Nat → Int} {c : C4} (h : ∀ k, k < 4 → p k = f4 c k) : c4 p = c := by
  unfold c4
  rw [h 0 (by omega), h 1 (by omega), h 2 (by omega), h 3 (by omega)]
  rfl
section
variable {D n : Nat} {a b : Nat → Int}
theorem psF_at {p : Nat → Int} {i : Nat} : psF p a b i = true ↔ plc p (a i).toNat 4 = b i := by
  unfold psF
  exact decide_eq_true_iff
theorem th_ps (l : Lg n a b) {s : Nat → Bool} (h4 : cnF s n ≤ 4) (hw : alW (cnF s n) (slF s a n) (slF s b n) = true) {i : Nat} (hi : i < n) (hs : s i = true) : psF (thP (cnF s n) (slF s a n) (slF s b n)) a b i = true := by
  obtain ⟨h1, h2⟩ := slF_at hi hs
  have h3 := th_on (slF_dy h4 l.rg l.up) hw h1
  rw [h2, h2] at h3
  rw [psF_at, plc_z h4 fun k hk _ => th_z hk]
  exact h3
theorem ps_th (l : Lg n a b) {s : Nat → Bool} (h4 : cnF s n ≤ 4) {p : Nat → Int} (hz : ∀ k, cnF s n ≤ k → k < 4 → p k = 0) (hp : ∀ i, i < n → s i = true → psF p a b i = true) : alW (cnF s n) (slF s a n) (slF s b n) = true ∧ ∀ k, k < 4 → thP (cnF s n) (slF s a n) (slF s b n) k = p k := by
  obtain ⟨h1, h2⟩ := th_of (slF_dy h4 l.rg l.up) (y := slF s b n) p fun m hm => by
    obtain ⟨i, g1, g2, g3, g4⟩ := slF_mem n m hm
    rw [g3, g3, ← plc_z h4 hz]
    exact psF_at.1 (hp i g1 g2)
  refine ⟨h1, fun k hk => ?_⟩
  by_cases e : k < cnF s n
  · exact h2 k e
  · rw [hz k (by omega) hk, th_z (by omega)]
theorem ps_one (hD : D ≤ 3) (l : Lg n a b) {p q : Nat → Int} (hp : ∀ k, D < k → k < 4 → p k = 0) (hq : ∀ k, D < k → k < 4 → q k = 0) (h : D + 1 ≤ cnF (fun i => psF p a b i && psF q a b i) n) : ∀ k, k < 4 → p k = q k := by
  have hc := fs_cn (p := fun i => psF p a b i && psF q a b i) (D + 1) n
  rw [Nat.min_eq_right h] at hc
  have hs : ∀ i, fsF (fun i => psF p a b i && psF q a b i) (D + 1) i = true → psF p a b i = true ∧ psF q a b i = true := fun i hi => by
    unfold fsF at hi
    rw [Bool.and_eq_true, Bool.and_eq_true] at hi
    exact hi.1
  generalize fsF (fun i => psF p a b i && psF q a b i) (D + 1) = s at *
  have h1 := ps_th l (s := s) (by omega) (p := p) (fun k hk => hp k (by omega)) fun i _ hi => (hs i hi).1
  have h2 := ps_th l (s := s) (by omega) (p := q) (fun k hk => hq k (by omega)) fun i _ hi => (hs i hi).2
  intro k hk
  rw [← h1.2 k hk, h2.2 k hk]
theorem mpS_iff (hD : D ≤ 3) (l : Lg n a b) {c : C4} : c ∈ mpS D n a b (2 ^ n) ↔ (∀ k, D < k → k < 4 → f4 c k = 0) ∧ D + 1 ≤ cnC n a b c := by
  constructor
  · intro h
    obtain ⟨g, _, hg, hw, rfl⟩ := mpS_mem _ h
    refine ⟨fun k h1 h2 => ?_, ?_⟩
    · rw [f4_at h2]
      exact th_z (by omega)
    · rw [cnC_eq, ← hg]
      exact cnF_sub n fun i hi hb => th_ps l (by omega) hw hi hb
  · rintro ⟨hz, hc⟩
    have hcn := fs_cn (p := psF (f4 c) a b) (D + 1) n
    have hc' : D + 1 ≤ cnF (psF (f4 c) a b) n := hc
    rw [Nat.min_eq_right hc'] at hcn
    have hb := bn_bit n (fsF (psF (f4 c) a b) (D + 1))
    have hl := bn_lt n (fsF (psF (f4 c) a b) (D + 1))
    generalize bnF (fsF (psF (f4 c) a b) (D + 1)) n = g at *
    have hg : cnF g.testBit n = D + 1 := by rw [cnF_congr n hb, hcn]
    obtain ⟨h1, h2⟩ := ps_th l (s := g.testBit) (by omega) (p := f4 c) (fun k hk => hz k (by omega)) fun i hi hs => by
      rw [hb i hi] at hs
      unfold fsF at hs
      rw [Bool.and_eq_true] at hs
      exact hs.1
    have h3 := mpS_all (D := D) (a := a) (b := b) _ g hl hg h1
    rwa [show c4 (crG n a b g) = c from c4_f4 h2] at h3
end
end Go.Proofs.K
namespace Go.Proofs.K
open Go.As
set_option maxRecDepth 20000
section
variable {cn : C4 → Nat}
theorem prQ_mem {q : List C4} {c : C4} (h : c ∈ q) : ∃ e ∈ prQ q, e.1 = c := by
  have h1 : c ∈ (prQ q).map (·.1) := by rw [prQ_keys]; exact List.mem_reverse.2 h
  obtain ⟨e, he, h2⟩ := List.mem_map.1 h1
  exact ⟨e, he, h2⟩
theorem mx_ge {q : List C4} {c : C4} (h : c ∈ q) : cn c ≤ mxC cn (prQ q) := by
  obtain ⟨e, he, rfl⟩ := prQ_mem h
  exact mxC_ge he
theorem prQ_ne {q : List C4} (h : q ≠ []) : prQ q ≠ [] := fun h2 => by
  have := prQ_len q
  rw [h2] at this
  exact h (List.length_eq_zero_iff.1 this.symm)
theorem mx_at {q : List C4} (h : q ≠ []) : ∃ c ∈ q, cn c = mxC cn (prQ q) := by
  obtain ⟨e, he, h2⟩ := mxC_at (cn := cn) (prQ_ne h)
  exact ⟨e.1, prQ_sub he, h2⟩
end
theorem fi4_cn : ∀ n, cnF fi4 n = min n 4
  | 0 => rfl
  | n + 1 => by
    show cnF fi4 n + (if fi4 n = true then 1 else 0) = _
    rw [fi4_cn n]
    unfold fi4
    by_cases h : n ≤ 3
    · rw [decide_eq_true h, if_pos rfl]; omega
    · rw [decide_eq_false h, if_neg Bool.false_ne_true]; omega
theorem dg_le {p : Nat → Int} {D : Nat} (h : ∀ k, D < k → k < 4 → p k = 0) : dgF p ≤ D := by
  unfold dgF
  by_cases h3 : p 3 ≠ 0
  · rw [if_pos h3]
    apply Classical.byContradiction; intro hc
    exact h3 (h 3 (by omega) (by omega))
  rw [if_neg h3]
  by_cases h2 : p 2 ≠ 0
  · rw [if_pos h2]
    apply Classical.byContradiction; intro hc
    exact h2 (h 2 (by omega) (by omega))
  rw [if_neg h2]
  by_cases h1 : p 1 ≠ 0
  · rw [if_pos h1]
    apply Classical.byContradiction; intro hc
    exact h1 (h 1 (by omega) (by omega))
  rw [if_neg h1]
  exact Nat.zero_le _
theorem dg_z (p : Nat → Int) : dgF p ≤ 3 ∧ (∀ k, dgF p < k → k < 4 → p k = 0) ∧ (0 < dgF p → p (dgF p) ≠ 0) := by
  unfold dgF
  by_cases h3 : p 3 ≠ 0
  · rw [if_pos h3]
    exact ⟨by omega, fun k h1 h2 => by omega, fun _ => h3⟩
  rw [if_neg h3]
  have h3 : p 3 = 0 := Classical.not_not.1 h3
  by_cases h2 : p 2 ≠ 0
  · rw [if_pos h2]
    exact ⟨by omega, fun k h1 h4 => by rw [show k = 3 by omega]; exact h3, fun _ => h2⟩
  rw [if_neg h2]
  have h2 : p 2 = 0 := Classical.not_not.1 h2
  by_cases h1 : p 1 ≠ 0
  · rw [if_pos h1]
    refine ⟨by omega, fun k h1 h4 => ?_, fun _ => h1⟩
    have : k = 2 ∨ k = 3 := by omega
    rcases this with rfl | rfl
    · exact h2
    · exact h3
  rw [if_neg h1]
  have h1 : p 1 = 0 := Classical.not_not.1 h1
  refine ⟨by omega, fun k h5 h4 => ?_, fun h => absurd h (Nat.lt_irrefl _)⟩
  have : k = 1 ∨ k = 2 ∨ k = 3 := by omega
  rcases this with rfl | rfl | rfl
  · exact h1
  · exact h2
  · exact h3
def lsP (n : Nat) (a b : Nat → Int) : Nat → Int := thP (cnF fi4 n) (slF fi4 a n) (slF fi4 b n)
def lsB (n : Nat) (a b : Nat → Int) : Bool := alW (cnF fi4 n) (slF fi4 a n) (slF fi4 b n) && decide (cnF (psF (lsP n a b) a b) n = n)
theorem ls_nil {a b : Nat → Int} : lsB 0 a b = true ∧ dgF (lsP 0 a b) = 0 := ⟨rfl, rfl⟩
section
variable {D n : Nat} {a b : Nat → Int}
theorem psF_congr {p q : Nat → Int} (h : ∀ k, k < 4 → p k = q k) : psF p a b = psF q a b := funext fun i => by
  unfold psF
  rw [plc_congr 4 h]
theorem ls_all (hD : D ≤ 3) (l : Lg n a b) {c : C4} (hc : c ∈ mpS D n a b (2 ^ n)) (hn : cnC n a b c = n) : lsB n a b = true ∧ dgF (lsP n a b) ≤ D ∧ ∀ k, k < 4 → lsP n a b k = f4 c k := by
  obtain ⟨hz, hge⟩ := (mpS_iff hD l).1 hc
  have e4 := fi4_cn n
  obtain ⟨h1, h2⟩ := ps_th l (s := fi4) (fi4_le n) (p := f4 c) (fun k hk => hz k (by omega)) fun i hi _ => cnF_full n hn i hi
  have h2 : ∀ k, k < 4 → lsP n a b k = f4 c k := h2
  refine ⟨?_, dg_le fun k hk hk4 => by rw [h2 k hk4, hz k hk hk4], h2⟩
  unfold lsB
  rw [h1, psF_congr h2, Bool.true_and]
  exact decide_eq_true hn
theorem ls_least (l : Lg n a b) (hn : 0 < n) (h : lsB n a b = true) : dgF (lsP n a b) ≤ 3 ∧ c4 (lsP n a b) ∈ mpS (dgF (lsP n a b)) n a b (2 ^ n) ∧ cnC n a b (c4 (lsP n a b)) = n := by
  unfold lsB at h
  rw [Bool.and_eq_true, decide_eq_true_eq] at h
  obtain ⟨g1, g2, g3⟩ := dg_z (lsP n a b)
  have hc : cnC n a b (c4 (lsP n a b)) = n := by rw [cnC_eq]; exact h.2
  refine ⟨g1, (mpS_iff g1 l).2 ⟨fun k h1 h2 => by rw [f4_at h2]; exact g2 k h1 h2, ?_⟩, hc⟩
  rw [hc]
  by_cases e : 0 < dgF (lsP n a b)
  · apply Classical.byContradiction
    intro hlt
    have e4 := fi4_cn n
    exact g3 e (th_z (by omega))
  · omega
end
end Go.Proofs.K
namespace Go.Proofs.K
open Go.As
set_option maxRecDepth 20000
theorem prQ_count (P : C4 → Bool) (q : List C4) : ((prQ q).filter fun e => P e.1).length = q.countP P := by
  rw [← List.countP_eq_length_filter]
  have h1 : (prQ q).countP (fun e => P e.1) = ((prQ q).map (·.1)).countP P := by rw [List.countP_map]; rfl
  rw [h1, prQ_keys, List.countP_reverse]
theorem bst_len (cn : C4 → Nat) (q : List C4) : (bstL cn (prQ q)).length = q.countP fun c => decide (cn c = mxC cn (prQ q)) := prQ_count (fun c => decide (cn c = mxC cn (prQ q))) q
theorem wr_len (cn : C4 → Nat) (a b : Nat → Int) (x : Nat) (q : List C4) : wrN a b x (bstL cn (prQ q)) = q.countP fun c => !psF (f4 c) a b x && decide (cn c = mxC cn (prQ q)) := by
  rw [← prQ_count (fun c => !psF (f4 c) a b x && decide (cn c = mxC cn (prQ q))) q]
  unfold wrN bstL
  rw [List.filter_filter]
structure TwoL (D n : Nat) (a b a' b' : Nat → Int) (f g : C4 → C4) : Prop where
  fz : ∀ c, (∀ k, D < k → k < 4 → f4 c k = 0) → ∀ k, D < k → k < 4 → f4 (f c) k = 0
  gz : ∀ c, (∀ k, D < k → k < 4 → f4 c k = 0) → ∀ k, D < k → k < 4 → f4 (g c) k = 0
  fg : ∀ c, (∀ k, D < k → k < 4 → f4 c k = 0) → f (g c) = c
  gf : ∀ c, (∀ k, D < k → k < 4 → f4 c k = 0) → g (f c) = c
  cn : ∀ c, (∀ k, D < k → k < 4 → f4 c k = 0) → cnC n a' b' (f c) = cnC n a b c
section
variable {D n : Nat} {a b a' b' : Nat → Int} {f g : C4 → C4}
theorem TwoL.perm (hD : D ≤ 3) (l : Lg n a b) (l' : Lg n a' b') (t : TwoL D n a b a' b' f g) : (mpS D n a' b' (2 ^ n)).Perm ((mpS D n a b (2 ^ n)).map f) := by
  have hi := fun c => mpS_iff (c := c) hD l
  have hi' := fun c => mpS_iff (c := c) hD l'
  have hn := mpS_nodup D n a b (2 ^ n)
  have hn' := mpS_nodup D n a' b' (2 ^ n)
  generalize mpS D n a b (2 ^ n) = L at *
  generalize mpS D n a' b' (2 ^ n) = L' at *
  have hinj : (L.map f).Nodup := by
    rw [List.Nodup, List.pairwise_map]
    refine hn.imp_of_mem fun {x y} hx hy hne he => hne ?_
    rw [← t.gf x ((hi x).1 hx).1, ← t.gf y ((hi y).1 hy).1, he]
  rw [List.perm_ext_iff_of_nodup hn' hinj]
  intro c
  constructor
  · intro h
    obtain ⟨h1, h2⟩ := (hi' c).1 h
    refine List.mem_map.2 ⟨g c, (hi _).2 ⟨t.gz c h1, ?_⟩, t.fg c h1⟩
    rw [← t.cn _ (t.gz c h1), t.fg c h1]
    exact h2
  · intro h
    obtain ⟨x, hx, rfl⟩ := List.mem_map.1 h
    obtain ⟨h1, h2⟩ := (hi x).1 hx
    refine (hi' _).2 ⟨t.fz x h1, ?_⟩
    rw [t.cn x h1]
    exact h2
theorem TwoL.all (hD : D ≤ 3) (l : Lg n a b) (l' : Lg n a' b') (t : TwoL D n a b a' b' f g) :
    (mpS D n a b (2 ^ n) = [] ↔ mpS D n a' b' (2 ^ n) = []) ∧ mxC (cnC n a' b') (prQ (mpS D n a' b' (2 ^ n))) = mxC (cnC n a b) (prQ (mpS D n a b (2 ^ n))) ∧
    (bstL (cnC n a' b') (prQ (mpS D n a' b' (2 ^ n)))).length = (bstL (cnC n a b) (prQ (mpS D n a b (2 ^ n)))).length ∧
    ∀ x x', (∀ c, (∀ k, D < k → k < 4 → f4 c k = 0) → psF (f4 (f c)) a' b' x' = psF (f4 c) a b x) → wrN a' b' x' (bstL (cnC n a' b') (prQ (mpS D n a' b' (2 ^ n)))) = wrN a b x (bstL (cnC n a b) (prQ (mpS D n a b (2 ^ n)))) := by
  have hp := t.perm hD l l'
  have hz := fun c hc => ((mpS_iff (c := c) hD l).1 hc).1
  generalize mpS D n a b (2 ^ n) = L at *
  generalize mpS D n a' b' (2 ^ n) = L' at *
  have hcn := fun c hc => t.cn c (hz c hc)
  generalize cnC n a b = cn at *
  generalize cnC n a' b' = cn' at *
  have e0 : L = [] ↔ L' = [] := by
    constructor
    · intro h
      subst h
      exact List.Perm.eq_nil hp
    · intro h
      subst h
      exact List.map_eq_nil_iff.1 (List.Perm.eq_nil hp.symm)
  have e1 : mxC cn' (prQ L') = mxC cn (prQ L) := by
    by_cases h0 : L = []
    · rw [e0.1 h0, h0]; rfl
    · have h0' : L' ≠ [] := fun h => h0 (e0.2 h)
      obtain ⟨x, hx, h1⟩ := mx_at (cn := cn) h0
      obtain ⟨y, hy, h2⟩ := mx_at (cn := cn') h0'
      have h3 := mx_ge (cn := cn') (q := L') (c := f x) (hp.mem_iff.2 (List.mem_map_of_mem hx))
      obtain ⟨z, hzz, hzy⟩ := List.mem_map.1 (hp.mem_iff.1 hy)
      have h4 := mx_ge (cn := cn) hzz
      rw [hcn x hx] at h3
      rw [← hzy, hcn z hzz] at h2
      omega
  refine ⟨e0, e1, ?_, fun x x' hx => ?_⟩
  · rw [bst_len, bst_len, e1, hp.countP_eq, List.countP_map]
    refine List.countP_congr fun c hc => ?_
    show decide (cn' (f c) = _) = true ↔ decide (cn c = _) = true
    rw [hcn c hc]
  · rw [wr_len, wr_len, e1, hp.countP_eq, List.countP_map]
    refine List.countP_congr fun c hc => ?_
    show (!psF (f4 (f c)) a' b' x' && decide (cn' (f c) = _)) = true ↔ _
    rw [hcn c hc, hx c (hz c hc)]
end
end Go.Proofs.K
namespace Go.Proofs.K
open Go.As
set_option maxRecDepth 20000
theorem TwoL.symm {D n : Nat} {a b a' b' : Nat → Int} {f g : C4 → C4} (t : TwoL D n a b a' b' f g) : TwoL D n a' b' a b g f where
  fz := t.gz
  gz := t.fz
  fg := t.gf
  gf := t.fg
  cn := fun c hc => by rw [← t.cn _ (t.gz c hc), t.fg c hc]
end Go.Proofs.K
namespace Go.Proofs.K
open Go.As
set_option maxRecDepth 20000
def eS (x : Int × Int) : List V := [.int .i64 x.1, .int .i64 x.2]
theorem eS_bare (x : Int × Int) : ∀ v ∈ eS x, bare0 v = true := by
  intro v hv
  rcases List.mem_cons.1 hv with rfl | hv
  · rfl
  · rw [List.mem_singleton.1 hv]; rfl
theorem eS_len (x : Int × Int) : (eS x).length = 2 := rfl
theorem gP_bare (l : List (Int × Int)) : ∀ v ∈ gR eS l, bare0 v = true := gR_bare eS_bare
theorem gS_len (l : List (Int × Int)) : (gR eS l).length = l.length * 2 := gR_len eS_len l
theorem gS_one (l : List (Int × Int)) : (gR eS l).all one = true := gR_one eS_bare l
def lsT (a b : Nat → Int) : Nat → List (Int × Int)
  | 0 => []
  | j + 1 => (a j, b j) :: lsT a b j
theorem lsT_len (a b : Nat → Int) : ∀ n, (lsT a b n).length = n
  | 0 => rfl
  | n + 1 => by show (lsT a b n).length + 1 = n + 1; rw [lsT_len a b n]
theorem lsT_rev (a b : Nat → Int) : ∀ (n : Nat) (j : Nat) (x : Int × Int), (lsT a b n).reverse[j]? = some x → x = (a j, b j)
  | 0, j, x, h => by simp [lsT] at h
  | n + 1, j, x, h => by
    have e : (lsT a b (n + 1)).reverse = (lsT a b n).reverse ++ [(a n, b n)] := List.reverse_cons
    rw [e] at h
    by_cases hj : j < n
    · rw [List.getElem?_append_left (by rw [List.length_reverse, lsT_len]; exact hj)] at h
      exact lsT_rev a b n j x h
    · rw [List.getElem?_append_right (by rw [List.length_reverse, lsT_len]; omega), List.length_reverse, lsT_len] at h
      by_cases h2 : j = n
      · subst h2
        rw [Nat.sub_self] at h
        exact (Option.some.inj h).symm
      · rw [List.getElem?_eq_none (by simp; omega)] at h; cases h
end Go.Proofs.K
namespace Go.Proofs.K
open Go.As
set_option maxRecDepth 20000
theorem csP_sm2 {n : Nat} {x y : Nat → Int} (h : Dy n x) (hy : Pl n y) : Sm 700000000000 4 (thP n x y) := by
  intro k hk
  have b0 := qP_bd h hy (d := 0) (by omega)
  have b1 := qP_bd h hy (d := 1) (by omega)
  have b2 := qP_bd h hy (d := 2) (by omega)
  have b3 := qP_bd h hy (d := 3) (by omega)
  unfold thP
  cases alW n x y with
  | false => show _ ≤ (0 : Int) ∧ (0 : Int) ≤ _; omega
  | true =>
    show _ ≤ csP n (qP n x y) k ∧ csP n (qP n x y) k ≤ _
    unfold csP cut
    generalize qP n x y = q at *
    by_cases e : k < n
    · rw [if_pos e]
      match k, hk with
      | 0, _ => show _ ≤ q 0 ∧ q 0 ≤ _; omega
      | 1, _ => show _ ≤ q 1 - q 0 ∧ q 1 - q 0 ≤ _; omega
      | 2, _ => show _ ≤ q 2 - q 1 - (q 1 - q 0) ∧ q 2 - q 1 - (q 1 - q 0) ≤ _; omega
      | 3, _ => show _ ≤ q 3 - q 2 - (q 2 - q 1) - (q 2 - q 1 - (q 1 - q 0)) ∧ q 3 - q 2 - (q 2 - q 1) - (q 2 - q 1 - (q 1 - q 0)) ≤ _; omega
    · rw [if_neg e]; omega
end Go.Proofs.K
namespace Go.Proofs.K
open Go.As Go.ChangeShapes Go.WideShapes Go.Deep Go.ChangeAt Go.RowKit
set_option maxRecDepth 20000
section
variable {H : Type} {enc : TypeId × Value → H} {W : World}
theorem trod_struct2 {t : TypeId} {f0 f1 : Field} {fuel : Nat} {cs : List Value} {x : DataW H × List MemPlace} (ht : Try.prog.underlying t = some (.struct #[f0, f1])) (h : DataW.trod enc Try.prog W 0 (fun _ => true) true fuel t cs = some x) :
    ∃ y0 y1 n, x = (.agg [y0.1, y1.1], y0.2 ++ y1.2) ∧ cs.length = Try.prog.cellsOf t ∧ DataW.trod enc Try.prog W 0 (fun _ => true) true n f0.type ((cs.drop f0.offset).take (Try.prog.cellsOf f0.type)) = some y0 ∧
      DataW.trod enc Try.prog W 0 (fun _ => true) true n f1.type ((cs.drop f1.offset).take (Try.prog.cellsOf f1.type)) = some y1 := by
  obtain ⟨xs, n, _, rfl, hl, hlen, hf⟩ := DataW.trod_struct ht h
  match xs, hlen with
  | [y0, y1], _ => exact ⟨y0, y1, n, by simp, hl, by simpa using hf 0 f0 rfl, by simpa using hf 1 f1 rfl⟩
theorem ints_of {n t k : Nat} (hfl : flatI Try.prog n t = some k) {fuel : Nat} {cs : List Value} {x : DataW H × List MemPlace} (h : DataW.trod enc Try.prog W 0 (fun _ => true) true fuel t cs = some x) : x.2 = [] ∧ cs.length = k ∧ ∀ v ∈ cs, IsI v :=
  flatI_read n t k hfl fuel cs x.1 x.2 h
theorem s_read {fuel : Nat} {v : Value} {d : DataW H} {ps : List MemPlace} {b0 : Nat} (h : DataW.trod enc Try.prog W 0 (fun _ => true) true fuel 31 [v] = some (d, ps)) (hz : W.noneFrozen ps) (hok : Cell.okWide Try.prog W .any b0 31 v) :
    ∃ (n : Nat) (a b : Nat → Int), n ≤ 9223372036854775807 ∧ FR (zW W) (.rsl false 2 n (lkG a b)) v := by
  rcases slice_read (n := 5) (k := 2) Try.underlying31 (by kernel_rfl) (by kernel_rfl) h hz hok with rfl | ⟨ad, len, cap, f, c, et, flo, fhi, rfl, hlc, hlm, hb, hcs⟩
  · exact ⟨0, fun _ => 0, fun _ => 0, by simp, .rsl0⟩
  · refine ⟨len, fun i => f (i * 2), fun i => f (i * 2 + 1), hlm, FR.ints hlc hb hcs (fun i hi => ⟨rfl, fun j v hv => ?_⟩)⟩
    match j with
    | 0 => simp [lkG] at hv; rw [← hv, Nat.add_zero]
    | 1 => simp [lkG] at hv; rw [← hv]
    | j + 2 => simp [lkG] at hv
theorem log_read {v : Value} {d : DataW H} {ps : List MemPlace} {b0 : Nat} (hok : Value.okWide Try.prog W .any b0 33 v) (hd : DataW.Trod enc Try.prog W 0 (fun _ => true) true 33 v d ps) (hz : W.noneFrozen ps) :
    ∃ (S : Int) (n : Nat) (a b : Nat → Int), n ≤ 9223372036854775807 ∧ VR (mW W) (lgV S false n a b) v := by
  simp only [Value.okWide, Try.underlying33] at hok
  obtain ⟨cs, rfl, hsz, ts, hts, _, hcell⟩ := hok
  have hts' : Try.prog.cellTypes Try.prog.depth 33 = some [3, 31] := by kernel_rfl
  rw [hts'] at hts
  cases hts
  have c25 : Try.prog.cellsOf 33 = 2 := by kernel_rfl
  have c3 : Try.prog.cellsOf 3 = 1 := by kernel_rfl
  have c22 : Try.prog.cellsOf 31 = 1 := by kernel_rfl
  obtain ⟨fuel, hf⟩ := hd
  have hf' : DataW.trod enc Try.prog W 0 (fun _ => true) true fuel 33 cs.toList = some (d, ps) := hf
  obtain ⟨y0, y1, n, hx, hlen, h0, h1⟩ := trod_struct2 Try.underlying33 hf'
  rw [c25] at hsz
  obtain ⟨csl⟩ := cs
  dsimp only at h0 h1 hlen hf'
  match csl, hsz with
  | [a0, x], _ =>
  rw [c3] at h0
  rw [c22] at h1
  have h0' : DataW.trod enc Try.prog W 0 (fun _ => true) true n 3 [a0] = some y0 := h0
  have h1' : DataW.trod enc Try.prog W 0 (fun _ => true) true n 31 [x] = some y1 := h1
  obtain ⟨_, _, hI⟩ := ints_of (n := 5) (t := 3) (k := 1) (by kernel_rfl) h0'
  obtain ⟨P, rfl, _⟩ := hI a0 (by simp)
  obtain ⟨u2, hu2, hc2⟩ := hcell 1 x rfl
  cases hu2
  cases hx
  have hz2 : W.noneFrozen y1.2 := fun b off hp => hz b off (List.mem_append_right _ hp)
  obtain ⟨k, a, b, hk, hfr⟩ := s_read h1' hz2 hc2
  exact ⟨P, k, a, b, hk, Go.As.VRs.agg (.cons (.int _ _) (.cons hfr.vr (.nil _)))⟩
end
end Go.Proofs.K
namespace Go.Proofs.K
open Go.As
set_option maxRecDepth 20000
section
variable {d n : Nat} {a b p q : Nat → Int}
theorem cut_z (p : Nat → Int) : ∀ k, d < k → k < 4 → cut (d + 1) p k = 0 := fun k h _ => by unfold cut; rw [if_neg (by omega)]
end
end Go.Proofs.K
namespace Go.Proofs.K
open Go.As
set_option maxRecDepth 20000
theorem longs_nil (h : As.H) : CallOk Try.prog 21 [.nils, .nils] h (.bool true) h := by
  refine CallOk.run0 Try.func21 rfl rfl rfl rfl rfl (WpR.of_vc ?_)
  (conv => whnf); (repeat' (first | ((with_reducible refine ifb_mk (fun hc => ?_) (fun hc => ?_)) <;> ((try simp only [decide_eq_true_eq, decide_eq_false_iff_not, Bool.not_eq_true', Bool.not_eq_false', Int.not_lt, Int.not_le, ne_eq, Decidable.not_not, beq_iff_eq, List.cons.injEq, and_true] at hc); (first | (exfalso; omega) | exact absurd True.intro hc | conv => whnf))) | ((with_reducible refine And.intro True.intro ?_); conv => whnf) | ((with_reducible refine WpR.loopU 1 ?_); conv => whnf) | ((with_reducible refine And.intro ?hh ?_); (case hh => exact condA); conv => whnf) | fail))
  all_goals first | (refine ⟨[], ?_, rfl, rfl, trivial, trivs⟩; simp only [renV, renL]; (first | done | rfl | (simp; done) | (simp; omega) | grind)) | (exfalso; omega)
end Go.Proofs.K
namespace Go.Proofs.K
open Go.As
set_option maxRecDepth 20000
theorem lsT_congr {a b a' b' : Nat → Int} : ∀ n, (∀ j, j < n → a j = a' j ∧ b j = b' j) → lsT a b n = lsT a' b' n
  | 0, _ => rfl
  | n + 1, h => by
    show (a n, b n) :: lsT a b n = (a' n, b' n) :: lsT a' b' n
    rw [(h n (by omega)).1, (h n (by omega)).2, lsT_congr n fun j hj => h j (by omega)]
end Go.Proofs.K
namespace Go.Proofs.K
open Go.As
set_option maxRecDepth 20000
def onG (D n : Nat) (a b : Nat → Int) (g : Nat) : Int := ((onN (pmF (D + 1) (crG n a b g) a b) n : Nat) : Int)
def pqL (D n : Nat) (a b : Nat → Int) : Nat → List Int
  | 0 => []
  | g + 1 => if cnF g.testBit n = D + 1 ∧ wkG n a b g = true ∧ onG D n a b g ∉ pqL D n a b g then onG D n a b g :: pqL D n a b g else pqL D n a b g
theorem pq_len (D n : Nat) (a b : Nat → Int) : ∀ g, (pqL D n a b g).length ≤ g
  | 0 => Nat.le_refl _
  | g + 1 => by
    have ih := pq_len D n a b g
    unfold pqL
    split
    · rw [List.length_cons]; omega
    · omega
def slT (p : Nat → Bool) (a b : Nat → Int) (i : Nat) : List (Int × Int) := lsT (slF p a i) (slF p b i) (cnF p i)
section
variable {p : Nat → Bool} {a b : Nat → Int} {i : Nat}
theorem slT_yes (h : p i = true) : slT p a b (i + 1) = (a i, b i) :: slT p a b i := by
  obtain ⟨h1, h2⟩ := slF_yes (a := a) h
  have h3 := (slF_yes (a := b) h).2
  unfold slT
  rw [h1]
  show (slF p a (i + 1) (cnF p i), slF p b (i + 1) (cnF p i)) :: lsT _ _ (cnF p i) = _
  rw [h2, h3, if_pos rfl, if_pos rfl, lsT_congr (a' := slF p a i) (b' := slF p b i) _ fun j hj => ⟨by rw [h2, if_neg (by omega)], by rw [h3, if_neg (by omega)]⟩]
theorem slT_no (h : p i = false) : slT p a b (i + 1) = slT p a b i := by
  obtain ⟨h1, h2⟩ := slF_no (a := a) h
  have h3 := (slF_no (a := b) h).2
  unfold slT
  rw [h1, h2, h3]
theorem slT_len : (slT p a b i).length = cnF p i := lsT_len _ _ _
end
theorem th_sel {h : As.H} {q : Nat → Prop} {bb : Nat} {a b : Nat → Int} {n : Nat} (hq : q bb) (hb : h.get bb = some (.cells (ofL (gR eS (lsT a b (n + 1))) 0) true (some (2, (n + 1) * 2)))) : Th h q (.rsl false 2 (n + 1) (lkG a b)) (.sl bb 0 (n + 1) (n + 1) false) := by
  have hl := lsT_len a b (n + 1)
  refine .sl (c := ofL (gR eS (lsT a b (n + 1))) 0) hq hb (fun h => by cases h) (Nat.le_refl _) (fun j hj => rfl) fun j hj k v hv => ?_
  obtain ⟨x, hx⟩ : ∃ x, (lsT a b (n + 1)).reverse[j]? = some x := ⟨_, List.getElem?_eq_getElem (by rw [List.length_reverse, hl]; exact hj)⟩
  have e := lsT_rev a b (n + 1) j x hx
  have hv2 : (eS x)[k]? = some v := by rw [e]; exact hv
  refine ⟨?_, eS_bare x v (List.mem_of_getElem? hv2)⟩
  rw [Nat.zero_add]
  exact get_ofL0 (gR_at eS_len hx hv2)
def nfB (q : List Int) (x : Int) (i : Nat) : Bool := (q.reverse.take i).all fun y => decide (y ≠ x)
theorem nf_step {q : List Int} {x y : Int} {i : Nat} (h : q.reverse[i]? = some y) : nfB q x (i + 1) = (nfB q x i && decide (y ≠ x)) := by
  unfold nfB
  rw [List.take_add_one, h, List.all_append]
  simp
theorem nf_end {q : List Int} {x : Int} {i : Nat} (h : q.length ≤ i) : nfB q x i = true ↔ x ∉ q := by
  unfold nfB
  rw [List.take_of_length_le (by rw [List.length_reverse]; exact h), List.all_eq_true]
  constructor
  · intro h1 h2
    have := h1 x (List.mem_reverse.2 h2)
    rw [decide_eq_true_eq] at this
    exact this rfl
  · intro h1 y hy
    exact decide_eq_true fun e => h1 (by rw [← e]; exact List.mem_reverse.1 hy)
end Go.Proofs.K
namespace Go.Proofs.K
open Go.As
set_option maxRecDepth 20000
theorem gI_get {q : List Int} {i o : Nat} {y : Int} (h : q.reverse[i]? = some y) (ho : o = i) : (ofL (gR eI q) 0).get o = some (.int .i64 y) := by
  subst ho
  have h1 := gR_at (e := eI) (sz := 1) eI_len h (k := 0) (v := .int .i64 y) rfl
  rw [Nat.mul_one, Nat.add_zero] at h1
  exact get_ofL0 h1
set_option maxHeartbeats 16000000 in
theorem paths_new (h : As.H) (D : Nat) (hD : D ≤ 3) (ex : Bool) (n : Nat) (a b : Nat → Int) (l : Lg n a b) (L : List Int) (hL : L = pqL D n a b (2 ^ n)) :
    CallOk Try.prog 74 [lgV D ex n a b] h (grV (h.n + 0) L.length) (addBs h (gNew 1 eI L)) := by
  have hn := l.le
  have h2n : 2 ^ n ≤ 4096 := Nat.pow_le_pow_right (n := 2) (by omega) hn
  have kZ : ∀ g : Nat, g < 2 ^ n → ∀ h', CallOk Try.prog 42 [.int .i64 g] h' (.int .i64 ((cnF g.testBit n : Nat) : Int)) h' := fun g hg h' => by
    have k := sizeR_ok h' g (by omega)
    rwa [cnF_low hg (by omega)] at k
  have kP : ∀ g : Nat, cnF g.testBit n = D + 1 → wkG n a b g = true → ∀ (h' : As.H) (q2 : List (Int × Int)) (hq : q2 = slT g.testBit a b n) (hb : h'.get 2 = some (.cells (ofL (gR eS q2) 0) true (some (2, (D + 1) * 2)))), CallOk Try.prog 64 [.sl 2 0 (D + 1) (D + 1) false] h' (.tup [.rsl false 1 (D + 1) (iG fun k => dif (qP (D + 1) (slF g.testBit a n) (slF g.testBit b n)) k 0), .bool true]) (h'.put 2 .dead) := fun g hg hw h' q2 hq hb => by
    subst hq
    unfold slT at hb
    rw [hg] at hb
    have hdy := slF_dy (p := g.testBit) (a := a) (by omega) l.rg l.up
    have hpl := slF_pl (p := g.testBit) (b := b) l.at'
    rw [hg] at hdy hpl
    have k := pass_ok As.H.empty false (D + 1) (by omega) (slF g.testBit a n) (slF g.testBit b n) hdy hpl
    have hw' : alW (D + 1) (slF g.testBit a n) (slF g.testBit b n) = true := by rw [← hg]; exact hw
    rw [hw'] at k
    exact CallOk.thawF k rfl h' 2 hb (.cons (th_sel rfl hb) .nil) (fun m xs hv => occ0 hv)
  have kN : ∀ g : Nat, cnF g.testBit n = D + 1 → wkG n a b g = false → ∀ (h' : As.H) (q2 : List (Int × Int)) (hq : q2 = slT g.testBit a b n) (hb : h'.get 2 = some (.cells (ofL (gR eS q2) 0) true (some (2, (D + 1) * 2)))), CallOk Try.prog 64 [.sl 2 0 (D + 1) (D + 1) false] h' (.tup [.nils, .bool false]) h' := fun g hg hw h' q2 hq hb => by
    subst hq
    unfold slT at hb
    rw [hg] at hb
    have hdy := slF_dy (p := g.testBit) (a := a) (by omega) l.rg l.up
    have hpl := slF_pl (p := g.testBit) (b := b) l.at'
    rw [hg] at hdy hpl
    have k := pass_ok As.H.empty false (D + 1) (by omega) (slF g.testBit a n) (slF g.testBit b n) hdy hpl
    have hw' : alW (D + 1) (slF g.testBit a n) (slF g.testBit b n) = false := by rw [← hg]; exact hw
    rw [hw'] at k
    exact CallOk.thaw k rfl h' (.cons (th_sel trivial hb) .nil)
  have kO : ∀ g : Nat, cnF g.testBit n = D + 1 → wkG n a b g = true → ∀ h', CallOk Try.prog 43 [.rsl ex 2 n (lkG a b), .rsl false 1 (D + 1) (iG fun k => dif (qP (D + 1) (slF g.testBit a n) (slF g.testBit b n)) k 0)] h' (.int .i64 (onG D n a b g)) h' := fun g hg hw h' => by
    have hdy := slF_dy (p := g.testBit) (a := a) (by omega) l.rg l.up
    have hpl := slF_pl (p := g.testBit) (b := b) l.at'
    have hsm := csP_sm2 hdy hpl
    have hcr : ∀ k, k < D + 1 → crG n a b g k = dif (qP (D + 1) (slF g.testBit a n) (slF g.testBit b n)) k 0 := fun k hk => by
      unfold crG
      rw [hg]
      unfold thP
      have hw' : alW (D + 1) (slF g.testBit a n) (slF g.testBit b n) = true := by rw [← hg]; exact hw
      rw [hw']
      show cut (D + 1) _ k = _
      unfold cut
      rw [if_pos hk]
    have k := on_ok h' ex false n hn a b l.rg (D + 1) (by omega) (fun k => dif (qP (D + 1) (slF g.testBit a n) (slF g.testBit b n)) k 0) fun k hk => by
      have := hsm k (by omega)
      have e := hcr k hk
      unfold crG at e
      dsimp only
      rw [← e]; omega
    have e : onN (pmF (D + 1) (fun k => dif (qP (D + 1) (slF g.testBit a n) (slF g.testBit b n)) k 0) a b) n = onN (pmF (D + 1) (crG n a b g) a b) n := by
      congr 1
      funext i
      unfold pmF
      rw [plc_congr (D + 1) fun k hk => (hcr k hk).symm]
    rw [e] at k
    exact k
  have esh := shl64 (s := n) (by omega)
  have hp0 : pqL D n a b 0 = [] := rfl
  have hps : ∀ g, pqL D n a b (g + 1) = if cnF g.testBit n = D + 1 ∧ wkG n a b g = true ∧ onG D n a b g ∉ pqL D n a b g then onG D n a b g :: pqL D n a b g else pqL D n a b g := fun g => rfl
  have hpl := pq_len D n a b
  have hrng := l.rg
  generalize pqL D n a b = PQ at *
  refine CallOk.runN Try.func74 rfl rfl (argsC := [lgV D ex n a b]) (fun N => grV (N + 0) L.length) (fun _ => gNew 1 eI L) (Nat.le_of_ble_eq_true rfl) [] (.cons (.lt0 rfl) .nil) (viewM0 h) (grSh _ _ _ 1 0 _ eI L (by simp)) rfl (fun i b hi => ⟨b, hi, grBs eI_bare hi⟩) (WpR.of_vc ?_)
  have hMap : ∀ n (q : List Int), ltB n (grB 1 (gR eI q) q.length) := fun n q => grB_lt (gR_bare eI_bare) _
  have hMap2 : ∀ n (q : List (Int × Int)), ltB n (grB 2 (gR eS q) q.length) := fun n q => grB_lt (gR_bare eS_bare) _
  have hMapA := hMap
  have hMapB := hMap2
  have hMapC : ∀ k, ltB k (.cells (ofL (lgV D ex n a b).cells 0) true none) := fun k => ltB_ofL (by intro v hv; (repeat (rcases List.mem_cons.1 hv with rfl | hv; exact rfl)); cases hv)
  (conv => whnf); (repeat' (first | ((with_reducible refine ifb_mk (fun hc => ?_) (fun hc => ?_)) <;> ((try simp only [decide_eq_true_eq, decide_eq_false_iff_not, Bool.not_eq_true', Bool.not_eq_false', Int.not_lt, Int.not_le, ne_eq, Decidable.not_not, beq_iff_eq, List.cons.injEq, and_true] at hc); (first | (exfalso; omega) | exact absurd True.intro hc | conv => whnf))) | ((with_reducible refine And.intro True.intro ?_); conv => whnf) | ((with_reducible refine And.intro ?hh ?_); (case hh => exact condA); conv => whnf) | fail))
  refine WpR.loopA (ι := Nat × List Int) [1] [0, 1] [1] [] 2 (fun p => [(3, grV 1 p.2.length), (4, .int .i64 p.1)]) (fun p => [(1, grB 1 (gR eI p.2) p.2.length)]) (fun p => 2 ^ n - p.1) (fun p => p.1 ≤ 2 ^ n ∧ p.2 = PQ p.1) ?_ ((0, [])) (⟨Nat.zero_le _, hp0.symm⟩) [] Back.auto (htv := fun p _ => ⟨grV_lt rfl _, rfl, trivial⟩)
  rintro ⟨g, q⟩ ⟨j1, j2⟩
  dsimp only at j1 j2
  refine WpR.of_vc ?_
  have hql := hpl g
  have hpg := hps g
  rw [← j2] at hql hpg
  by_cases hg : g < 2 ^ n
  · have hgt : (g : Int) < IntKind.i64.wrap (1 * 2 ^ min (n : Int).toNat IntKind.i64.bits) := by rw [esh]; omega
    have kZg := kZ g hg
    by_cases hc : cnF g.testBit n = D + 1
    rotate_left
    · rw [if_neg (fun h => hc h.1)] at hpg
      generalize cnF g.testBit n = cg at *
      (conv => whnf); (repeat' (first | ((with_reducible refine ifb_mk (fun hc => ?_) (fun hc => ?_)) <;> ((try simp only [decide_eq_true_eq, decide_eq_false_iff_not, Bool.not_eq_true', Bool.not_eq_false', Int.not_lt, Int.not_le, ne_eq, Decidable.not_not, beq_iff_eq, List.cons.injEq, and_true] at hc); (first | (exfalso; omega) | exact absurd True.intro hc | conv => whnf))) | ((with_reducible refine And.intro True.intro ?_); conv => whnf) | ((with_reducible refine grd_and ?_); refine And.intro (hgt) ?_; conv => whnf) | ((with_reducible refine CallX.all ?_); refine CallW.of_ok (kZg _) ?_; conv => whnf) | ((with_reducible refine grd_ex ?_); refine ex_ok (kZg _) ?_; conv => whnf) | ((with_reducible refine WpR.draw (id := 5) mixed [0, 2, 3, 4, 1, 5] [0, 1, 0, 4, 12, 31] ?hh ?_); (case hh => kernel_rfl); conv => whnf) | ((with_reducible refine And.intro ?hh ?_); (case hh => exact condA); conv => whnf) | fail))
      all_goals first | (exfalso; omega) | exact ⟨(g + 1, q), [], by dsimp only; omega, ⟨by dsimp only; omega, hpg.symm⟩, Back.auto⟩
    have hav : ∀ k, avV [2] (grV 1 k) = true := fun k => by cases k <;> rfl
    have e1 := fun i (hi : i < n) => shr64 (a := g) (s := i) (by omega)
    have eand : ∀ i, i < n → IntKind.i64.wrap (((BitVec.ofInt IntKind.i64.bits ((g : Int).fdiv (2 ^ min (i : Int).toNat IntKind.i64.bits)) &&& BitVec.ofInt IntKind.i64.bits (1 : Int)).toNat : Nat) : Int) = if g.testBit i = true then 1 else 0 := fun i hi => by
      rw [e1 i hi]
      have hsl : g >>> i < 65536 := Nat.lt_of_le_of_lt (by rw [Nat.shiftRight_eq_div_pow]; exact Nat.div_le_self _ _) (by omega : g < 65536)
      have := and64 (a := g >>> i) (b := 1) hsl (by decide)
      rw [show ((1 : Nat) : Int) = 1 from rfl] at this
      rw [this, and_one]
      split <;> rfl
    have kPg := kP g hc
    have kNg := kN g hc
    have kOg := kO g hc
    have hsy := fun i (h : g.testBit i = true) => slT_yes (p := g.testBit) (a := a) (b := b) (i := i) h
    have hsn := fun i (h : g.testBit i = false) => slT_no (p := g.testBit) (a := a) (b := b) (i := i) h
    have hs0 : slT g.testBit a b 0 = [] := rfl
    have hsl := fun i => slT_len (p := g.testBit) (a := a) (b := b) (i := i)
    have hcl := fun i (hi : i ≤ n) => cnF_mono (p := g.testBit) hi
    have hcD : cnF g.testBit n = D + 1 := hc
    clear kP kN kO kZ e1
    generalize slT g.testBit a b = SL at *
    rw [hc] at kZg
    (conv => whnf); (repeat' (first | ((with_reducible refine ifb_mk (fun hc => ?_) (fun hc => ?_)) <;> ((try simp only [decide_eq_true_eq, decide_eq_false_iff_not, Bool.not_eq_true', Bool.not_eq_false', Int.not_lt, Int.not_le, ne_eq, Decidable.not_not, beq_iff_eq, List.cons.injEq, and_true] at hc); (first | (exfalso; omega) | exact absurd True.intro hc | conv => whnf))) | ((with_reducible refine And.intro True.intro ?_); conv => whnf) | ((with_reducible refine grd_and ?_); refine And.intro (hgt) ?_; conv => whnf) | ((with_reducible refine CallX.all ?_); refine CallW.of_ok (kZg _) ?_; conv => whnf) | ((with_reducible refine grd_ex ?_); refine ex_ok (kZg _) ?_; conv => whnf) | ((with_reducible refine WpR.draw (id := 5) mixed [0, 2, 3, 4, 1, 5] [0, 1, 0, 4, 12, 31] ?hh ?_); (case hh => kernel_rfl); conv => whnf) | ((with_reducible refine And.intro ?hh ?_); (case hh => exact condA); conv => whnf) | fail))
    all_goals first | (exfalso; omega) | skip
    refine WpR.loopA (ι := Nat × List (Int × Int)) [2] [0, 1, 3, 4] [2] [] 3 (fun p => [(5, grV 2 p.2.length), (6, .int .i64 p.1)]) (fun p => [(2, grB 2 (gR eS p.2) p.2.length)]) (fun p => n - p.1) (fun p => p.1 ≤ n ∧ p.2 = SL p.1) ?_ ((0, [])) (⟨Nat.zero_le _, hs0.symm⟩) [] Back.auto (htv := fun p _ => ⟨grV_lt rfl _, rfl, trivial⟩) (hka := by (repeat' (first | exact True.intro | refine And.intro ?_ ?_ | rfl | exact hav _)))
    rintro ⟨i, q2⟩ ⟨k1, k2⟩
    dsimp only at k1 k2
    refine WpR.of_vc ?_
    have hq2 := hsl i
    rw [← k2] at hq2
    have hci := hcl i k1
    by_cases hi : i < n
    · have ea := eand i hi
      cases hb : g.testBit i with
      | true =>
        rw [hb, if_pos rfl] at ea
        have e := hsy i hb
        rw [← k2] at e
        (conv => whnf); (repeat' (first | ((with_reducible refine ifb_mk (fun hc => ?_) (fun hc => ?_)) <;> ((try simp only [decide_eq_true_eq, decide_eq_false_iff_not, Bool.not_eq_true', Bool.not_eq_false', Int.not_lt, Int.not_le, ne_eq, Decidable.not_not, beq_iff_eq, List.cons.injEq, and_true] at hc); (first | (exfalso; omega) | exact absurd True.intro hc | conv => whnf))) | ((with_reducible refine And.intro True.intro ?_); conv => whnf) | ((with_reducible refine grd_and ?_); refine And.intro (hi) ?_; conv => whnf) | ((with_reducible refine grd_and ?_); refine And.intro (ea) ?_; conv => whnf) | (refine AppX.gr (n := 1) (L := gR eS q2) (len := q2.length) rfl rfl (gS_len q2) (gS_one q2) Nat.zero_lt_one (by omega) ?_; conv => whnf) | ((with_reducible refine And.intro ?hh ?_); (case hh => exact condA); conv => whnf) | fail))
        all_goals first | (exact absurd ea (by assumption)) | (exfalso; omega) | exact ⟨(i + 1, (a i, b i) :: q2), [(2, 4)], by dsimp only; omega, ⟨by dsimp only; omega, e.symm⟩, Back.auto⟩
      | false =>
        rw [hb, if_neg Bool.false_ne_true] at ea
        have ea1 : ¬ IntKind.i64.wrap (((BitVec.ofInt IntKind.i64.bits ((g : Int).fdiv (2 ^ min (i : Int).toNat IntKind.i64.bits)) &&& BitVec.ofInt IntKind.i64.bits (1 : Int)).toNat : Nat) : Int) = 1 := by rw [ea]; decide
        have e := hsn i hb
        rw [← k2] at e
        (conv => whnf); (repeat' (first | ((with_reducible refine ifb_mk (fun hc => ?_) (fun hc => ?_)) <;> ((try simp only [decide_eq_true_eq, decide_eq_false_iff_not, Bool.not_eq_true', Bool.not_eq_false', Int.not_lt, Int.not_le, ne_eq, Decidable.not_not, beq_iff_eq, List.cons.injEq, and_true] at hc); (first | (exfalso; omega) | exact absurd True.intro hc | conv => whnf))) | ((with_reducible refine And.intro True.intro ?_); conv => whnf) | ((with_reducible refine grd_and ?_); refine And.intro (hi) ?_; conv => whnf) | ((with_reducible refine grd_and ?_); refine And.intro (ea1) ?_; conv => whnf) | ((with_reducible refine And.intro ?hh ?_); (case hh => exact condA); conv => whnf) | fail))
        all_goals first | (exact absurd (by assumption) ea1) | (exfalso; omega) | exact ⟨(i + 1, q2), [], by dsimp only; omega, ⟨by dsimp only; omega, e.symm⟩, Back.auto⟩
    · have ei : i = n := by omega
      rw [ei] at k2 hq2
      rw [hcD] at hq2
      obtain ⟨y2, q3, rfl⟩ : ∃ y q', q2 = y :: q' := by
        cases q2 with
        | nil => simp at hq2
        | cons y q' => exact ⟨y, q', rfl⟩
      have hD3 : q3.length = D := by simpa using hq2
      subst hD3
      clear hsy hsn hs0 hsl hcl eand hci hq2
      cases hw : wkG n a b g with
      | false =>
        have kNg := kNg hw
        rw [if_neg (fun h => by rw [hw] at h; exact absurd h.2.1 (by decide))] at hpg
        (conv => whnf); (repeat' (first | ((with_reducible refine ifb_mk (fun hc => ?_) (fun hc => ?_)) <;> ((try simp only [decide_eq_true_eq, decide_eq_false_iff_not, Bool.not_eq_true', Bool.not_eq_false', Int.not_lt, Int.not_le, ne_eq, Decidable.not_not, beq_iff_eq, List.cons.injEq, and_true] at hc); (first | (exfalso; omega) | exact absurd True.intro hc | conv => whnf))) | ((with_reducible refine And.intro True.intro ?_); conv => whnf) | ((with_reducible refine grd_and ?_); refine And.intro (hi) ?_; conv => whnf) | ((with_reducible refine CallX.all ?_); refine CallW.of_ok (kNg _ (y2 :: q3) k2 rfl) ?_; conv => whnf) | ((with_reducible refine And.intro ?hh ?_); (case hh => exact condA); conv => whnf) | fail))
        all_goals first | (exfalso; omega) | exact ⟨(g + 1, q), [], by dsimp only; omega, ⟨by dsimp only; omega, hpg.symm⟩, Back.auto⟩
      | true =>
        have kPg := kPg hw
        have kOg := kOg hw
        simp only [hcD, hw, true_and] at hpg
        generalize onG q3.length n a b g = on at *
        generalize (fun k => dif (qP (q3.length + 1) (slF g.testBit a n) (slF g.testBit b n)) k 0) = pp at *
        cases q with
        | nil =>
          rw [if_pos (by simp)] at hpg
          (conv => whnf); (repeat' (first | ((with_reducible refine ifb_mk (fun hc => ?_) (fun hc => ?_)) <;> ((try simp only [decide_eq_true_eq, decide_eq_false_iff_not, Bool.not_eq_true', Bool.not_eq_false', Int.not_lt, Int.not_le, ne_eq, Decidable.not_not, beq_iff_eq, List.cons.injEq, and_true] at hc); (first | (exfalso; omega) | exact absurd True.intro hc | conv => whnf))) | ((with_reducible refine And.intro True.intro ?_); conv => whnf) | ((with_reducible refine WpR.loopU 1 ?_); conv => whnf) | ((with_reducible refine grd_and ?_); refine And.intro (hi) ?_; conv => whnf) | ((with_reducible refine CallX.all ?_); refine CallW.of_ok (kPg _ (y2 :: q3) k2 rfl) ?_; conv => whnf) | ((with_reducible refine CallX.all ?_); refine CallW.of_ok (kOg _) ?_; conv => whnf) | (refine AppX.nil (n := 1) Nat.zero_lt_one (Nat.le_of_ble_eq_true rfl) ?_; conv => whnf) | ((with_reducible refine And.intro ?hh ?_); (case hh => exact condA); conv => whnf) | fail))
          all_goals first | (exfalso; omega) | exact ⟨(g + 1, [on]), [(1, 4)], by dsimp only; omega, ⟨by dsimp only; omega, hpg.symm⟩, Back.auto⟩
        | cons y q' =>
          have hql2 : (y :: q').length = q'.length + 1 := rfl
          have hget := fun i z o (hz : (y :: q').reverse[i]? = some z) ho => gI_get (o := o) hz ho
          (conv => whnf); (repeat' (first | ((with_reducible refine ifb_mk (fun hc => ?_) (fun hc => ?_)) <;> ((try simp only [decide_eq_true_eq, decide_eq_false_iff_not, Bool.not_eq_true', Bool.not_eq_false', Int.not_lt, Int.not_le, ne_eq, Decidable.not_not, beq_iff_eq, List.cons.injEq, and_true] at hc); (first | (exfalso; omega) | exact absurd True.intro hc | conv => whnf))) | ((with_reducible refine And.intro True.intro ?_); conv => whnf) | ((with_reducible refine grd_and ?_); refine And.intro (hi) ?_; conv => whnf) | ((with_reducible refine CallX.all ?_); refine CallW.of_ok (kPg _ (y2 :: q3) k2 rfl) ?_; conv => whnf) | ((with_reducible refine CallX.all ?_); refine CallW.of_ok (kOg _) ?_; conv => whnf) | ((with_reducible refine And.intro ?hh ?_); (case hh => exact condA); conv => whnf) | fail))
          all_goals first | (exfalso; omega) | skip
          refine WpR.loopA (ι := Nat × Bool) [] [0, 1, 3, 4, 9] [] [] 3 (fun p => [(10, .bool p.2), (11, .int .i64 p.1)]) (fun p => []) (fun p => q'.length + 1 - p.1) (fun p => p.1 ≤ q'.length + 1 ∧ p.2 = nfB (y :: q') on p.1) ?_ ((0, true)) (⟨Nat.zero_le _, rfl⟩) [] Back.auto
          rintro ⟨r, fr⟩ ⟨m1, m2⟩
          dsimp only at m1 m2
          refine WpR.of_vc ?_
          by_cases hr : r < q'.length + 1
          · obtain ⟨z, hz⟩ : ∃ z, (y :: q').reverse[r]? = some z := ⟨_, List.getElem?_eq_getElem (by rw [List.length_reverse]; exact hr)⟩
            have hst := nf_step (x := on) hz
            rw [← m2] at hst
            have hgz := fun o ho => hget r z o hz ho
            cases fr with
            | false =>
              (conv => whnf); (repeat' (first | ((with_reducible refine ifb_mk (fun hc => ?_) (fun hc => ?_)) <;> ((try simp only [decide_eq_true_eq, decide_eq_false_iff_not, Bool.not_eq_true', Bool.not_eq_false', Int.not_lt, Int.not_le, ne_eq, Decidable.not_not, beq_iff_eq, List.cons.injEq, and_true] at hc); (first | (exfalso; omega) | exact absurd True.intro hc | conv => whnf))) | ((with_reducible refine And.intro True.intro ?_); conv => whnf) | ((with_reducible refine grd_and ?_); refine And.intro (hr) ?_; conv => whnf) | ((with_reducible refine And.intro ?hh ?_); (case hh => exact condA); conv => whnf) | fail))
              all_goals first | (exfalso; omega) | exact ⟨(r + 1, false), [], by dsimp only; omega, ⟨by dsimp only; omega, hst.symm⟩, Back.auto⟩
            | true =>
              (conv => whnf); (repeat' (first | ((with_reducible refine ifb_mk (fun hc => ?_) (fun hc => ?_)) <;> ((try simp only [decide_eq_true_eq, decide_eq_false_iff_not, Bool.not_eq_true', Bool.not_eq_false', Int.not_lt, Int.not_le, ne_eq, Decidable.not_not, beq_iff_eq, List.cons.injEq, and_true] at hc); (first | (exfalso; omega) | exact absurd True.intro hc | conv => whnf))) | ((with_reducible refine And.intro True.intro ?_); conv => whnf) | ((with_reducible refine grd_and ?_); refine And.intro (hr) ?_; conv => whnf) | ((with_reducible refine grd_get ?_); refine som_mk (a := ?_) ?hh ?_; (case hh => exact hgz _ (by show 0 + Int.toNat (r : Int) * 1 = r; omega)); conv => whnf) | ((with_reducible refine And.intro ?hh ?_); (case hh => exact condA); conv => whnf) | fail))
              all_goals first | (exfalso; omega) | exact ⟨(r + 1, decide (z ≠ on)), [], by dsimp only; omega, ⟨by dsimp only; omega, by rw [hst, Bool.true_and]⟩, Back.auto⟩
          · have hne := nf_end (q := y :: q') (x := on) (i := r) (by rw [hql2]; omega)
            rw [← m2] at hne
            cases fr with
            | false =>
              rw [if_neg (fun h => by have := hne.2 h; cases this)] at hpg
              (conv => whnf); (repeat' (first | ((with_reducible refine ifb_mk (fun hc => ?_) (fun hc => ?_)) <;> ((try simp only [decide_eq_true_eq, decide_eq_false_iff_not, Bool.not_eq_true', Bool.not_eq_false', Int.not_lt, Int.not_le, ne_eq, Decidable.not_not, beq_iff_eq, List.cons.injEq, and_true] at hc); (first | (exfalso; omega) | exact absurd True.intro hc | conv => whnf))) | ((with_reducible refine And.intro True.intro ?_); conv => whnf) | ((with_reducible refine grd_and ?_); refine And.intro (hr) ?_; conv => whnf) | ((with_reducible refine And.intro ?hh ?_); (case hh => exact condA); conv => whnf) | fail))
              all_goals first | (exfalso; omega) | exact ⟨(g + 1, y :: q'), [], by dsimp only; omega, ⟨by dsimp only; omega, hpg.symm⟩, Back.auto⟩
            | true =>
              rw [if_pos (hne.1 rfl)] at hpg
              (conv => whnf); (repeat' (first | ((with_reducible refine ifb_mk (fun hc => ?_) (fun hc => ?_)) <;> ((try simp only [decide_eq_true_eq, decide_eq_false_iff_not, Bool.not_eq_true', Bool.not_eq_false', Int.not_lt, Int.not_le, ne_eq, Decidable.not_not, beq_iff_eq, List.cons.injEq, and_true] at hc); (first | (exfalso; omega) | exact absurd True.intro hc | conv => whnf))) | ((with_reducible refine And.intro True.intro ?_); conv => whnf) | ((with_reducible refine grd_and ?_); refine And.intro (hr) ?_; conv => whnf) | (refine AppX.own (n := 1) (L := gR eI (y :: q')) (len := q'.length + 1) rfl (gI_len (y :: q')) (gI_one (y :: q')) Nat.zero_lt_one (by omega) ?_; conv => whnf) | ((with_reducible refine And.intro ?hh ?_); (case hh => exact condA); conv => whnf) | fail))
              all_goals first | (exfalso; omega) | exact ⟨(g + 1, on :: y :: q'), [(1, 4)], by dsimp only; omega, ⟨by dsimp only; omega, hpg.symm⟩, Back.auto⟩
  · have eg : g = 2 ^ n := by omega
    subst eg
    rw [← j2] at hL
    subst hL
    clear j2 hpg hps hp0 hpl kZ kP kN kO
    have hgt : ¬ ((2 ^ n : Nat) : Int) < IntKind.i64.wrap (1 * 2 ^ min (n : Int).toNat IntKind.i64.bits) := by rw [esh]; omega
    cases L with
    | nil =>
      (conv => whnf); (repeat' (first | ((with_reducible refine ifb_mk (fun hc => ?_) (fun hc => ?_)) <;> ((try simp only [decide_eq_true_eq, decide_eq_false_iff_not, Bool.not_eq_true', Bool.not_eq_false', Int.not_lt, Int.not_le, ne_eq, Decidable.not_not, beq_iff_eq, List.cons.injEq, and_true] at hc); (first | (exfalso; omega) | exact absurd True.intro hc | conv => whnf))) | ((with_reducible refine And.intro True.intro ?_); conv => whnf) | ((with_reducible refine grd_and ?_); refine And.intro (hgt) ?_; conv => whnf) | ((with_reducible refine And.intro ?hh ?_); (case hh => exact condA); conv => whnf) | fail))
      all_goals first | (exact absurd (by assumption) hgt) | (exfalso; omega) | exact ⟨[], rfl, rfl, rfl, trivial, trivs⟩
    | cons y q' =>
      (conv => whnf); (repeat' (first | ((with_reducible refine ifb_mk (fun hc => ?_) (fun hc => ?_)) <;> ((try simp only [decide_eq_true_eq, decide_eq_false_iff_not, Bool.not_eq_true', Bool.not_eq_false', Int.not_lt, Int.not_le, ne_eq, Decidable.not_not, beq_iff_eq, List.cons.injEq, and_true] at hc); (first | (exfalso; omega) | exact absurd True.intro hc | conv => whnf))) | ((with_reducible refine And.intro True.intro ?_); conv => whnf) | ((with_reducible refine grd_and ?_); refine And.intro (hgt) ?_; conv => whnf) | ((with_reducible refine And.intro ?hh ?_); (case hh => exact condA); conv => whnf) | fail))
      all_goals first | (exact absurd (by assumption) hgt) | (exfalso; omega) | exact ⟨[1], rfl, rfl, rfl, ⟨⟨_, rfl, rfl, SubQ.ofL rfl (gI_bare (y :: q')) (.inr rfl)⟩, ltB_ofLb (gI_bare (y :: q')), rfl, trivial⟩, trivs⟩
end Go.Proofs.K
namespace Go.Proofs.K
open Go.As
set_option maxRecDepth 20000
def pF (P : List Int) (j : Nat) : Nat := (gL P j).toNat
theorem pq_nat {D n : Nat} {a b : Nat → Int} : ∀ g, ∀ x ∈ pqL D n a b g, ∃ k : Nat, x = k ∧ k < 2 ^ n
  | 0, x, h => by cases h
  | g + 1, x, h => by
    unfold pqL at h
    split at h
    · rcases List.mem_cons.1 h with rfl | h
      · exact ⟨_, rfl, onN_lt _⟩
      · exact pq_nat g x h
    · exact pq_nat g x h
theorem paths_ok (h : As.H) (D : Nat) (hD : D ≤ 3) (ex : Bool) (n : Nat) (a b : Nat → Int) (l : Lg n a b) : CallOk Try.prog 74 [lgV D ex n a b] h (.rsl false 1 (pqL D n a b (2 ^ n)).length (iG fun j => ((pF (pqL D n a b (2 ^ n)).reverse j : Nat) : Int))) h := by
  refine gr_freeze eI_len eI_bare (paths_new h D hD ex n a b l _ rfl) fun j x hx => ?_
  have hm := List.mem_reverse.1 (List.mem_of_getElem? hx)
  obtain ⟨k, hk, _⟩ := pq_nat _ x hm
  have e : gL (pqL D n a b (2 ^ n)).reverse j = x := by unfold gL; rw [List.getD_eq_getElem?_getD, hx]; rfl
  show [V.int .i64 ((pF (pqL D n a b (2 ^ n)).reverse j : Nat) : Int)] = [V.int .i64 x]
  unfold pF
  rw [e, hk]; rfl
end Go.Proofs.K
namespace Go.Proofs.K
open Go.As
set_option maxRecDepth 20000
section
variable {D n : Nat} {a b : Nat → Int}
theorem pn_lt {j : Nat} (hj : j < (pqL D n a b (2 ^ n)).length) : pF (pqL D n a b (2 ^ n)).reverse j < 2 ^ n := by
  obtain ⟨x, hx⟩ : ∃ x, (pqL D n a b (2 ^ n)).reverse[j]? = some x := ⟨_, List.getElem?_eq_getElem (by rw [List.length_reverse]; exact hj)⟩
  obtain ⟨k, hk, h2⟩ := pq_nat _ x (List.mem_reverse.1 (List.mem_of_getElem? hx))
  unfold pF gL
  rw [List.getD_eq_getElem?_getD, hx]
  show x.toNat < 2 ^ n
  omega
end
end Go.Proofs.K
namespace Go.Proofs.K
open Go.As
set_option maxRecDepth 20000
def onC (n : Nat) (a b : Nat → Int) (c : C4) : Nat := onN (psF (f4 c) a b) n
section
variable {D n : Nat} {a b : Nat → Int}
theorem onG_eq {g : Nat} (hD : D ≤ 3) (hg : cnF g.testBit n = D + 1) : onG D n a b g = ((onC n a b (c4 (crG n a b g)) : Nat) : Int) := by
  unfold onG onC
  have e : pmF (D + 1) (crG n a b g) a b = psF (f4 (c4 (crG n a b g))) a b := by
    funext i
    rw [psF_congr (p := f4 (c4 (crG n a b g))) (q := crG n a b g) fun k hk => f4_at hk]
    unfold pmF psF
    rw [plc_z (p := crG n a b g) (m := D + 1) (by omega) fun k h1 _ => th_z (by omega)]
  rw [e]
theorem pq_mem : ∀ N, ∀ x ∈ pqL D n a b N, ∃ g, g < N ∧ cnF g.testBit n = D + 1 ∧ wkG n a b g = true ∧ x = onG D n a b g
  | 0, x, h => by cases h
  | N + 1, x, h => by
    unfold pqL at h
    split at h
    · rename_i hc
      rcases List.mem_cons.1 h with rfl | h
      · exact ⟨N, by omega, hc.1, hc.2.1, rfl⟩
      · obtain ⟨g, h1, h2⟩ := pq_mem N x h; exact ⟨g, by omega, h2⟩
    · obtain ⟨g, h1, h2⟩ := pq_mem N x h; exact ⟨g, by omega, h2⟩
theorem pq_all : ∀ N g, g < N → cnF g.testBit n = D + 1 → wkG n a b g = true → onG D n a b g ∈ pqL D n a b N
  | 0, g, h, _, _ => absurd h (Nat.not_lt_zero _)
  | N + 1, g, h, h1, h2 => by
    unfold pqL
    by_cases e : g = N
    · subst e
      by_cases hm : onG D n a b g ∈ pqL D n a b g
      · rw [if_neg (fun hc => hc.2.2 hm)]; exact hm
      · rw [if_pos ⟨h1, h2, hm⟩]; exact List.mem_cons_self
    · have := pq_all N g (by omega) h1 h2
      split
      · exact List.mem_cons_of_mem _ this
      · exact this
theorem pq_nodup : ∀ N, (pqL D n a b N).Nodup
  | 0 => List.nodup_nil
  | N + 1 => by
    unfold pqL
    split
    · rename_i h; exact List.nodup_cons.2 ⟨h.2.2, pq_nodup N⟩
    · exact pq_nodup N
theorem onC_bit {c : C4} {i : Nat} (hi : i < n) : (onC n a b c).testBit i = psF (f4 c) a b i := by
  unfold onC
  rw [onN_bit, decide_eq_true hi, Bool.true_and]
theorem onC_cn {c : C4} : cnF (onC n a b c).testBit n = cnC n a b c := cnF_congr n fun i hi => onC_bit hi
theorem onC_inj (hD : D ≤ 3) (l : Lg n a b) {c c' : C4} (hc : c ∈ mpS D n a b (2 ^ n)) (hc' : c' ∈ mpS D n a b (2 ^ n)) (h : onC n a b c = onC n a b c') : c = c' := by
  obtain ⟨z1, g1⟩ := (mpS_iff hD l).1 hc
  obtain ⟨z2, _⟩ := (mpS_iff hD l).1 hc'
  have hb : ∀ i, i < n → psF (f4 c) a b i = psF (f4 c') a b i := fun i hi => by rw [← onC_bit hi, ← onC_bit hi, h]
  have h1 := ps_one hD l z1 z2 (by
    rw [cnF_congr (q := psF (f4 c) a b) n fun i hi => by rw [← hb i hi, Bool.and_self]]
    exact g1)
  rw [← c4_f4 (p := f4 c) (c := c') h1]
  rfl
theorem pq_perm (hD : D ≤ 3) (l : Lg n a b) : (pqL D n a b (2 ^ n)).Perm ((mpS D n a b (2 ^ n)).map fun c => ((onC n a b c : Nat) : Int)) := by
  have hinj : ((mpS D n a b (2 ^ n)).map fun c => ((onC n a b c : Nat) : Int)).Nodup := by
    rw [List.Nodup, List.pairwise_map]
    refine (mpS_nodup D n a b (2 ^ n)).imp_of_mem fun {x y} hx hy hne he => hne ?_
    exact onC_inj hD l hx hy (by omega)
  rw [List.perm_ext_iff_of_nodup (pq_nodup _) hinj]
  intro x
  constructor
  · intro h
    obtain ⟨g, h1, h2, h3, rfl⟩ := pq_mem _ x h
    exact List.mem_map.2 ⟨_, mpS_all _ g h1 h2 h3, (onG_eq hD h2).symm⟩
  · intro h
    obtain ⟨c, hc, rfl⟩ := List.mem_map.1 h
    obtain ⟨g, h1, h2, h3, rfl⟩ := mpS_mem _ hc
    have := pq_all (D := D) (a := a) (b := b) _ g h1 h2 h3
    rwa [onG_eq hD h2] at this
end
end Go.Proofs.K
namespace Go.Proofs.K
open Go.As
set_option maxRecDepth 20000
theorem cnF_and (p r : Nat → Bool) : ∀ n, cnF p n + cnF r n ≤ cnF (fun i => p i && r i) n + n
  | 0 => Nat.le_refl _
  | n + 1 => by
    have ih := cnF_and p r n
    show cnF p n + (if p n = true then 1 else 0) + (cnF r n + (if r n = true then 1 else 0)) ≤ cnF (fun i => p i && r i) n + (if (p n && r n) = true then 1 else 0) + (n + 1)
    cases p n <;> cases r n <;> simp <;> omega
end Go.Proofs.K
namespace Go.Proofs.K
open Go.As
set_option maxRecDepth 20000
theorem fs_le {p : Nat → Bool} {m n : Nat} (i : Nat) (h : i ≤ n) : cnF (fsF p m) i ≤ m := by rw [fs_cn]; exact Nat.min_le_right _ _
theorem fs_yes {p : Nat → Bool} {m i : Nat} (h1 : p i = true) (h2 : cnF (fsF p m) i < m) : fsF p m i = true := by
  rw [fs_cn] at h2
  unfold fsF
  rw [h1, decide_eq_true (by omega)]; rfl
theorem fs_no {p : Nat → Bool} {m i : Nat} (h1 : p i = false ∨ m ≤ cnF (fsF p m) i) : fsF p m i = false := by
  unfold fsF
  rcases h1 with h | h
  · rw [h]; rfl
  · rw [fs_cn] at h
    rw [decide_eq_false (by omega), Bool.and_false]
section
variable {D n : Nat} {a b : Nat → Int}
set_option maxHeartbeats 8000000 in
theorem onlyR_none (h : As.H) (ex : Bool) (hv : ckL D n a b = 0) (w : Nat) (hw5 : w ≤ 5) (hpl : D + 1 + 2 * w ≤ n) (N : Nat) (pn : Nat → Nat) (hN : N ≤ 4096) (hpn : ∀ j, j < N → pn j < 2 ^ n)
    (kP : ∀ h' : As.H, CallOk Try.prog 74 [lgV D ex n a b] h' (.rsl false 1 N (iG fun j => ((pn j : Nat) : Int))) h') (hno : ∀ j, j < N → cnF (pn j).testBit n + w < n) :
    CallOk Try.prog 37 [lgV D ex n a b, .int .i64 w] h (.tup [.nils, .int .i64 23]) h := by
  obtain ⟨hD, l⟩ := ckL_lg hv
  have hn := l.le
  have h2n : 2 ^ n ≤ 4096 := Nat.pow_le_pow_right (n := 2) (by omega) hn
  have kC := fun h' => checkLogR_ok h' D ex n a b (by omega)
  rw [hv] at kC
  have kZ : ∀ j, j < N → ∀ h', CallOk Try.prog 42 [.int .i64 ((pn j : Nat) : Int)] h' (.int .i64 ((cnF (pn j).testBit n : Nat) : Int)) h' := fun j hj h' => by
    have k := sizeR_ok h' (pn j) (by have := hpn j hj; omega)
    rwa [cnF_low (hpn j hj) (by omega)] at k
  generalize hS : (fun j => cnF (pn j).testBit n) = S at *
  have hSj : ∀ j, cnF (pn j).testBit n = S j := fun j => by rw [← hS]
  simp only [hSj] at kZ hno
  clear hS hSj
  refine CallOk.run0 Try.func37 rfl rfl rfl rfl rfl (WpR.of_vc ?_)
  (conv => whnf); (repeat' (first | ((with_reducible refine ifb_mk (fun hc => ?_) (fun hc => ?_)) <;> ((try simp only [decide_eq_true_eq, decide_eq_false_iff_not, Bool.not_eq_true', Bool.not_eq_false', Int.not_lt, Int.not_le, ne_eq, Decidable.not_not, beq_iff_eq, List.cons.injEq, and_true] at hc); (first | (exfalso; omega) | exact absurd True.intro hc | conv => whnf))) | ((with_reducible refine And.intro True.intro ?_); conv => whnf) | ((with_reducible refine CallX.all ?_); refine CallW.of_ok (kC _) ?_; conv => whnf) | ((with_reducible refine grd_ex ?_); refine ex_ok (kC _) ?_; conv => whnf) | ((with_reducible refine CallX.all ?_); refine CallW.of_ok (kP _) ?_; conv => whnf) | ((with_reducible refine And.intro ?hh ?_); (case hh => exact condA); conv => whnf) | fail))
  all_goals first | (exfalso; omega) | skip
  refine WpR.loopA (ι := Nat) [] [1, 2, 6, 7] [] [] 1 (fun p => [(8, .int .i64 p)]) (fun p => []) (fun p => N - p) (fun p => p ≤ N) ?_ (0) (Nat.zero_le _) [] Back.auto
  intro j hj
  refine WpR.of_vc ?_
  by_cases hjN : j < N
  · have kZj := kZ j hjN
    have hnj := hno j hjN
    (conv => whnf); (repeat' (first | ((with_reducible refine ifb_mk (fun hc => ?_) (fun hc => ?_)) <;> ((try simp only [decide_eq_true_eq, decide_eq_false_iff_not, Bool.not_eq_true', Bool.not_eq_false', Int.not_lt, Int.not_le, ne_eq, Decidable.not_not, beq_iff_eq, List.cons.injEq, and_true] at hc); (first | (exfalso; omega) | exact absurd True.intro hc | conv => whnf))) | ((with_reducible refine And.intro True.intro ?_); conv => whnf) | ((with_reducible refine grd_and ?_); refine And.intro (hjN) ?_; conv => whnf) | ((with_reducible refine CallX.all ?_); refine CallW.of_ok (kZj _) ?_; conv => whnf) | ((with_reducible refine grd_ex ?_); refine ex_ok (kZj _) ?_; conv => whnf) | ((with_reducible refine And.intro ?hh ?_); (case hh => exact condA); conv => whnf) | fail))
    all_goals first | (exfalso; omega) | exact ⟨j + 1, [], by omega, by omega, Back.auto⟩
  · (conv => whnf); (repeat' (first | ((with_reducible refine ifb_mk (fun hc => ?_) (fun hc => ?_)) <;> ((try simp only [decide_eq_true_eq, decide_eq_false_iff_not, Bool.not_eq_true', Bool.not_eq_false', Int.not_lt, Int.not_le, ne_eq, Decidable.not_not, beq_iff_eq, List.cons.injEq, and_true] at hc); (first | (exfalso; omega) | exact absurd True.intro hc | conv => whnf))) | ((with_reducible refine And.intro True.intro ?_); conv => whnf) | ((with_reducible refine grd_and ?_); refine And.intro (hjN) ?_; conv => whnf) | ((with_reducible refine And.intro ?hh ?_); (case hh => exact condA); conv => whnf) | fail))
    all_goals first | (refine ⟨[], ?_, rfl, rfl, trivial, trivs⟩; simp only [renV, renL]; (first | done | rfl | (simp; done) | (simp; omega) | grind)) | (exfalso; omega)
set_option maxHeartbeats 8000000 in
theorem onlyR_yes (h : As.H) (ex : Bool) (hv : ckL D n a b = 0) (w : Nat) (hw5 : w ≤ 5) (hpl : D + 1 + 2 * w ≤ n) (N : Nat) (pn : Nat → Nat) (hN : N ≤ 4096) (hpn : ∀ j, j < N → pn j < 2 ^ n)
    (kP : ∀ h' : As.H, CallOk Try.prog 74 [lgV D ex n a b] h' (.rsl false 1 N (iG fun j => ((pn j : Nat) : Int))) h') (j0 : Nat) (hj0 : j0 < N) (hlo : ∀ j, j < j0 → cnF (pn j).testBit n + w < n) (hat : n ≤ cnF (pn j0).testBit n + w)
    (hal : alW (D + 1) (slF (fsF (pn j0).testBit (D + 1)) a n) (slF (fsF (pn j0).testBit (D + 1)) b n) = true) :
    CallOk Try.prog 37 [lgV D ex n a b, .int .i64 w] h (.tup [.rsl false 1 (D + 1) (iG fun k => dif (qP (D + 1) (slF (fsF (pn j0).testBit (D + 1)) a n) (slF (fsF (pn j0).testBit (D + 1)) b n)) k 0), .int .i64 0]) h := by
  obtain ⟨hD, l⟩ := ckL_lg hv
  have hn := l.le
  have h2n : 2 ^ n ≤ 4096 := Nat.pow_le_pow_right (n := 2) (by omega) hn
  have kC := fun h' => checkLogR_ok h' D ex n a b (by omega)
  rw [hv] at kC
  have hg0 := hpn j0 hj0
  have kZ : ∀ j, j < N → ∀ h', CallOk Try.prog 42 [.int .i64 ((pn j : Nat) : Int)] h' (.int .i64 ((cnF (pn j).testBit n : Nat) : Int)) h' := fun j hj h' => by
    have k := sizeR_ok h' (pn j) (by have := hpn j hj; omega)
    rwa [cnF_low (hpn j hj) (by omega)] at k
  have hcn : cnF (fsF (pn j0).testBit (D + 1)) n = D + 1 := by rw [fs_cn]; omega
  have kW : ∀ (h' : As.H) (q2 : List (Int × Int)) (hq : q2 = slT (fsF (pn j0).testBit (D + 1)) a b n) (hb : h'.get 1 = some (.cells (ofL (gR eS q2) 0) true (some (2, (D + 1) * 2)))), CallOk Try.prog 64 [.sl 1 0 (D + 1) (D + 1) false] h' (.tup [.rsl false 1 (D + 1) (iG fun k => dif (qP (D + 1) (slF (fsF (pn j0).testBit (D + 1)) a n) (slF (fsF (pn j0).testBit (D + 1)) b n)) k 0), .bool true]) (h'.put 1 .dead) := fun h' q2 hq hb => by
    subst hq
    unfold slT at hb
    rw [hcn] at hb
    have hdy := slF_dy (p := fsF (pn j0).testBit (D + 1)) (a := a) (by omega) l.rg l.up
    have hpl := slF_pl (p := fsF (pn j0).testBit (D + 1)) (b := b) l.at'
    rw [hcn] at hdy hpl
    have k := pass_ok As.H.empty false (D + 1) (by omega) (slF (fsF (pn j0).testBit (D + 1)) a n) (slF (fsF (pn j0).testBit (D + 1)) b n) hdy hpl
    rw [hal] at k
    exact CallOk.thawF k rfl h' 1 hb (.cons (th_sel rfl hb) .nil) (fun m xs hv => occ0 hv)
  have eand : ∀ i, i < n → IntKind.i64.wrap (((BitVec.ofInt IntKind.i64.bits (((pn j0 : Nat) : Int).fdiv (2 ^ min (i : Int).toNat IntKind.i64.bits)) &&& BitVec.ofInt IntKind.i64.bits (1 : Int)).toNat : Nat) : Int) = if (pn j0).testBit i = true then 1 else 0 := fun i hi => by
    rw [shr64 (a := pn j0) (s := i) (by omega)]
    have hsl : pn j0 >>> i < 65536 := Nat.lt_of_le_of_lt (by rw [Nat.shiftRight_eq_div_pow]; exact Nat.div_le_self _ _) (by omega : pn j0 < 65536)
    have := and64 (a := pn j0 >>> i) (b := 1) hsl (by decide)
    rw [show ((1 : Nat) : Int) = 1 from rfl] at this
    rw [this, and_one]
    split <;> rfl
  have hsy := fun i (h : fsF (pn j0).testBit (D + 1) i = true) => slT_yes (p := fsF (pn j0).testBit (D + 1)) (a := a) (b := b) (i := i) h
  have hsn := fun i (h : fsF (pn j0).testBit (D + 1) i = false) => slT_no (p := fsF (pn j0).testBit (D + 1)) (a := a) (b := b) (i := i) h
  have hs0 : slT (fsF (pn j0).testBit (D + 1)) a b 0 = [] := rfl
  have hsl := fun i => slT_len (p := fsF (pn j0).testBit (D + 1)) (a := a) (b := b) (i := i)
  have hcl := fun i (hi : i ≤ n) => fs_le (p := (pn j0).testBit) (m := D + 1) i hi
  have hfy := fun i => fs_yes (p := (pn j0).testBit) (m := D + 1) (i := i)
  have hfn := fun i => fs_no (p := (pn j0).testBit) (m := D + 1) (i := i)
  have hSL : slT (fsF (pn j0).testBit (D + 1)) a b n = slT (fsF (pn j0).testBit (D + 1)) a b n := rfl
  generalize (fun k => dif (qP (D + 1) (slF (fsF (pn j0).testBit (D + 1)) a n) (slF (fsF (pn j0).testBit (D + 1)) b n)) k 0) = pp at *
  generalize hSS : slT (fsF (pn j0).testBit (D + 1)) a b = SL at *
  generalize hFF : fsF (pn j0).testBit (D + 1) = F at *
  generalize hS : (fun j => cnF (pn j).testBit n) = S at *
  have hSj : ∀ j, cnF (pn j).testBit n = S j := fun j => by rw [← hS]
  simp only [hSj] at kZ hlo hat
  clear hS hSj hal hFF hSS hSL
  have hMap2 : ∀ n (q : List (Int × Int)), ltB n (grB 2 (gR eS q) q.length) := fun n q => grB_lt (gR_bare eS_bare) _
  have hMapA := hMap2
  refine CallOk.run0 Try.func37 rfl rfl rfl rfl rfl (WpR.of_vc ?_)
  (conv => whnf); (repeat' (first | ((with_reducible refine ifb_mk (fun hc => ?_) (fun hc => ?_)) <;> ((try simp only [decide_eq_true_eq, decide_eq_false_iff_not, Bool.not_eq_true', Bool.not_eq_false', Int.not_lt, Int.not_le, ne_eq, Decidable.not_not, beq_iff_eq, List.cons.injEq, and_true] at hc); (first | (exfalso; omega) | exact absurd True.intro hc | conv => whnf))) | ((with_reducible refine And.intro True.intro ?_); conv => whnf) | ((with_reducible refine CallX.all ?_); refine CallW.of_ok (kC _) ?_; conv => whnf) | ((with_reducible refine grd_ex ?_); refine ex_ok (kC _) ?_; conv => whnf) | ((with_reducible refine CallX.all ?_); refine CallW.of_ok (kP _) ?_; conv => whnf) | ((with_reducible refine And.intro ?hh ?_); (case hh => exact condA); conv => whnf) | fail))
  all_goals first | (exfalso; omega) | skip
  refine WpR.loopA (ι := Nat) [] [1, 2, 6, 7] [] [] 1 (fun p => [(8, .int .i64 p)]) (fun p => []) (fun p => N - p) (fun p => p ≤ j0) ?_ (0) (Nat.zero_le _) [] Back.auto
  intro j hj
  refine WpR.of_vc ?_
  have hjN : j < N := by omega
  have kZj := kZ j hjN
  by_cases hjj : j < j0
  · have hnj := hlo j hjj
    (conv => whnf); (repeat' (first | ((with_reducible refine ifb_mk (fun hc => ?_) (fun hc => ?_)) <;> ((try simp only [decide_eq_true_eq, decide_eq_false_iff_not, Bool.not_eq_true', Bool.not_eq_false', Int.not_lt, Int.not_le, ne_eq, Decidable.not_not, beq_iff_eq, List.cons.injEq, and_true] at hc); (first | (exfalso; omega) | exact absurd True.intro hc | conv => whnf))) | ((with_reducible refine And.intro True.intro ?_); conv => whnf) | ((with_reducible refine grd_and ?_); refine And.intro (hjN) ?_; conv => whnf) | ((with_reducible refine CallX.all ?_); refine CallW.of_ok (kZj _) ?_; conv => whnf) | ((with_reducible refine grd_ex ?_); refine ex_ok (kZj _) ?_; conv => whnf) | ((with_reducible refine And.intro ?hh ?_); (case hh => exact condA); conv => whnf) | fail))
    all_goals first | (exfalso; omega) | exact ⟨j + 1, [], by omega, by omega, Back.auto⟩
  · have ej : j = j0 := by omega
    subst ej
    (conv => whnf); (repeat' (first | ((with_reducible refine ifb_mk (fun hc => ?_) (fun hc => ?_)) <;> ((try simp only [decide_eq_true_eq, decide_eq_false_iff_not, Bool.not_eq_true', Bool.not_eq_false', Int.not_lt, Int.not_le, ne_eq, Decidable.not_not, beq_iff_eq, List.cons.injEq, and_true] at hc); (first | (exfalso; omega) | exact absurd True.intro hc | conv => whnf))) | ((with_reducible refine And.intro True.intro ?_); conv => whnf) | ((with_reducible refine grd_and ?_); refine And.intro (hjN) ?_; conv => whnf) | ((with_reducible refine CallX.all ?_); refine CallW.of_ok (kZj _) ?_; conv => whnf) | ((with_reducible refine grd_ex ?_); refine ex_ok (kZj _) ?_; conv => whnf) | ((with_reducible refine And.intro ?hh ?_); (case hh => exact condA); conv => whnf) | fail))
    all_goals first | (exfalso; omega) | skip
    refine WpR.loopA (ι := Nat × List (Int × Int)) [1] [1, 2, 6, 7, 8] [1] [] 2 (fun p => [(9, grV 1 p.2.length), (10, .int .i64 p.1)]) (fun p => [(1, grB 2 (gR eS p.2) p.2.length)]) (fun p => n - p.1) (fun p => p.1 ≤ n ∧ p.2 = SL p.1) ?_ ((0, [])) (⟨Nat.zero_le _, hs0.symm⟩) [] Back.auto (htv := fun p _ => ⟨grV_lt rfl _, rfl, trivial⟩)
    rintro ⟨i, q2⟩ ⟨k1, k2⟩
    dsimp only at k1 k2
    refine WpR.of_vc ?_
    have hq2 := hsl i
    rw [← k2] at hq2
    have hci := hcl i k1
    by_cases hi : i < n
    · have ea := eand i hi
      cases hb : (pn j).testBit i with
      | true =>
        rw [hb, if_pos rfl] at ea
        by_cases hlt : q2.length < D + 1
        · have e := hsy i (hfy i hb (by omega))
          rw [← k2] at e
          cases q2 with
          | nil =>
            (conv => whnf); (repeat' (first | ((with_reducible refine ifb_mk (fun hc => ?_) (fun hc => ?_)) <;> ((try simp only [decide_eq_true_eq, decide_eq_false_iff_not, Bool.not_eq_true', Bool.not_eq_false', Int.not_lt, Int.not_le, ne_eq, Decidable.not_not, beq_iff_eq, List.cons.injEq, and_true] at hc); (first | (exfalso; omega) | exact absurd True.intro hc | conv => whnf))) | ((with_reducible refine And.intro True.intro ?_); conv => whnf) | ((with_reducible refine WpR.loopU 1 ?_); conv => whnf) | ((with_reducible refine grd_and ?_); refine And.intro (hi) ?_; conv => whnf) | ((with_reducible refine grd_and ?_); refine And.intro (ea) ?_; conv => whnf) | (refine AppX.nil (n := 1) Nat.zero_lt_one (Nat.le_of_ble_eq_true rfl) ?_; conv => whnf) | ((with_reducible refine And.intro ?hh ?_); (case hh => exact condA); conv => whnf) | fail))
            all_goals first | (exact absurd ea (by assumption)) | (exfalso; omega) | exact ⟨(i + 1, [(a i, b i)]), [(1, 3)], by dsimp only; omega, ⟨by dsimp only; omega, e.symm⟩, Back.auto⟩
          | cons y q2 =>
            have hyl : (y :: q2).length = q2.length + 1 := rfl
            (conv => whnf); (repeat' (first | ((with_reducible refine ifb_mk (fun hc => ?_) (fun hc => ?_)) <;> ((try simp only [decide_eq_true_eq, decide_eq_false_iff_not, Bool.not_eq_true', Bool.not_eq_false', Int.not_lt, Int.not_le, ne_eq, Decidable.not_not, beq_iff_eq, List.cons.injEq, and_true] at hc); (first | (exfalso; omega) | exact absurd True.intro hc | conv => whnf))) | ((with_reducible refine And.intro True.intro ?_); conv => whnf) | ((with_reducible refine grd_and ?_); refine And.intro (hi) ?_; conv => whnf) | ((with_reducible refine grd_and ?_); refine And.intro (ea) ?_; conv => whnf) | (refine AppX.own (n := 1) (L := gR eS (y :: q2)) (len := q2.length + 1) rfl (gS_len (y :: q2)) (gS_one (y :: q2)) Nat.zero_lt_one (by omega) ?_; conv => whnf) | ((with_reducible refine And.intro ?hh ?_); (case hh => exact condA); conv => whnf) | fail))
            all_goals first | (exact absurd ea (by assumption)) | (exfalso; omega) | exact ⟨(i + 1, (a i, b i) :: y :: q2), [(1, 3)], by dsimp only; omega, ⟨by dsimp only; omega, e.symm⟩, Back.auto⟩
        · have e := hsn i (hfn i (.inr (by omega)))
          rw [← k2] at e
          cases q2 with
          | nil => simp at hlt
          | cons y q2 =>
            have hyl : (y :: q2).length = q2.length + 1 := rfl
            (conv => whnf); (repeat' (first | ((with_reducible refine ifb_mk (fun hc => ?_) (fun hc => ?_)) <;> ((try simp only [decide_eq_true_eq, decide_eq_false_iff_not, Bool.not_eq_true', Bool.not_eq_false', Int.not_lt, Int.not_le, ne_eq, Decidable.not_not, beq_iff_eq, List.cons.injEq, and_true] at hc); (first | (exfalso; omega) | exact absurd True.intro hc | conv => whnf))) | ((with_reducible refine And.intro True.intro ?_); conv => whnf) | ((with_reducible refine grd_and ?_); refine And.intro (hi) ?_; conv => whnf) | ((with_reducible refine grd_and ?_); refine And.intro (ea) ?_; conv => whnf) | ((with_reducible refine And.intro ?hh ?_); (case hh => exact condA); conv => whnf) | fail))
            all_goals first | (exact absurd ea (by assumption)) | (exfalso; omega) | exact ⟨(i + 1, y :: q2), [], by dsimp only; omega, ⟨by dsimp only; omega, e.symm⟩, Back.auto⟩
      | false =>
        rw [hb, if_neg Bool.false_ne_true] at ea
        have ea1 : ¬ IntKind.i64.wrap (((BitVec.ofInt IntKind.i64.bits (((pn j : Nat) : Int).fdiv (2 ^ min (i : Int).toNat IntKind.i64.bits)) &&& BitVec.ofInt IntKind.i64.bits (1 : Int)).toNat : Nat) : Int) = 1 := by rw [ea]; decide
        have e := hsn i (hfn i (.inl hb))
        rw [← k2] at e
        (conv => whnf); (repeat' (first | ((with_reducible refine ifb_mk (fun hc => ?_) (fun hc => ?_)) <;> ((try simp only [decide_eq_true_eq, decide_eq_false_iff_not, Bool.not_eq_true', Bool.not_eq_false', Int.not_lt, Int.not_le, ne_eq, Decidable.not_not, beq_iff_eq, List.cons.injEq, and_true] at hc); (first | (exfalso; omega) | exact absurd True.intro hc | conv => whnf))) | ((with_reducible refine And.intro True.intro ?_); conv => whnf) | ((with_reducible refine grd_and ?_); refine And.intro (hi) ?_; conv => whnf) | ((with_reducible refine grd_and ?_); refine And.intro (ea1) ?_; conv => whnf) | ((with_reducible refine And.intro ?hh ?_); (case hh => exact condA); conv => whnf) | fail))
        all_goals first | (exact absurd (by assumption) ea1) | (exfalso; omega) | exact ⟨(i + 1, q2), [], by dsimp only; omega, ⟨by dsimp only; omega, e.symm⟩, Back.auto⟩
    · have ei : i = n := by omega
      rw [ei] at k2 hq2
      rw [hcn] at hq2
      obtain ⟨y2, q3, rfl⟩ : ∃ y q', q2 = y :: q' := by
        cases q2 with
        | nil => simp at hq2
        | cons y q' => exact ⟨y, q', rfl⟩
      have hD3 : q3.length = D := by simpa using hq2
      subst hD3
      clear hsy hsn hs0 hsl hcl eand hci hq2
      (conv => whnf); (repeat' (first | ((with_reducible refine ifb_mk (fun hc => ?_) (fun hc => ?_)) <;> ((try simp only [decide_eq_true_eq, decide_eq_false_iff_not, Bool.not_eq_true', Bool.not_eq_false', Int.not_lt, Int.not_le, ne_eq, Decidable.not_not, beq_iff_eq, List.cons.injEq, and_true] at hc); (first | (exfalso; omega) | exact absurd True.intro hc | conv => whnf))) | ((with_reducible refine And.intro True.intro ?_); conv => whnf) | ((with_reducible refine grd_and ?_); refine And.intro (hi) ?_; conv => whnf) | ((with_reducible refine CallX.all ?_); refine CallW.of_ok (kW _ (y2 :: q3) k2 rfl) ?_; conv => whnf) | ((with_reducible refine And.intro ?hh ?_); (case hh => exact condA); conv => whnf) | fail))
      all_goals first | (refine ⟨[], ?_, rfl, rfl, trivial, trivs⟩; simp only [renV, renL]; (first | done | rfl | (simp; done) | (simp; omega) | grind)) | (exfalso; omega)
end
end Go.Proofs.K
namespace Go.Proofs.K
open Go.As
set_option maxRecDepth 20000
section
variable {D n : Nat} {a b : Nat → Int}
theorem pn_all (hD : D ≤ 3) (l : Lg n a b) : (∀ j, j < (pqL D n a b (2 ^ n)).length → ∃ c ∈ mpS D n a b (2 ^ n), pF (pqL D n a b (2 ^ n)).reverse j = onC n a b c) ∧
    ∀ c ∈ mpS D n a b (2 ^ n), ∃ j, j < (pqL D n a b (2 ^ n)).length ∧ pF (pqL D n a b (2 ^ n)).reverse j = onC n a b c := by
  have hp := pq_perm hD l
  refine ⟨fun j hj => ?_, fun c hc => ?_⟩
  · obtain ⟨x, hx⟩ : ∃ x, (pqL D n a b (2 ^ n)).reverse[j]? = some x := ⟨_, List.getElem?_eq_getElem (by rw [List.length_reverse]; exact hj)⟩
    obtain ⟨c, hc, rfl⟩ := List.mem_map.1 (hp.mem_iff.1 (List.mem_reverse.1 (List.mem_of_getElem? hx)))
    refine ⟨c, hc, ?_⟩
    unfold pF gL
    rw [List.getD_eq_getElem?_getD, hx]; rfl
  · have hm := List.mem_reverse.2 (hp.mem_iff.2 (List.mem_map_of_mem (f := fun c => ((onC n a b c : Nat) : Int)) hc))
    obtain ⟨j, hj, hx⟩ := List.getElem_of_mem hm
    rw [List.length_reverse] at hj
    refine ⟨j, hj, ?_⟩
    unfold pF gL
    rw [List.getD_eq_getElem?_getD, List.getElem?_eq_getElem (by rw [List.length_reverse]; exact hj), hx]; rfl
theorem lv_iff {w g : Nat} : lvG D n a b w g = true ↔ cnF g.testBit n = D + 1 ∧ wkG n a b g = true ∧ n ≤ cnC n a b (c4 (crG n a b g)) + w := by
  unfold lvG
  rw [Bool.and_eq_true, Bool.and_eq_true, decide_eq_true_eq, decide_eq_true_eq, cnC_eq]
theorem onlyR_err (h : As.H) (D : Int) (ex : Bool) (hn9 : n ≤ 9223372036854775807) (w : Int) (he : ckO D n a b w ≠ 0) :
    CallOk Try.prog 37 [lgV D ex n a b, .int .i64 w] h (.tup [.nils, .int .i64 (ckO D n a b w)]) h := by
  have kC := fun h' => checkLogR_ok h' D ex n a b hn9
  unfold ckO at he ⊢
  by_cases hv : ckL D n a b = 0
  · rw [if_pos hv] at he ⊢
    rw [hv] at kC
    obtain ⟨hD, l⟩ := ckL_lg hv
    have hn := l.le
    by_cases h1 : 0 ≤ w ∧ w ≤ 5
    · rw [if_pos h1] at he ⊢
      by_cases h2 : (n : Int) < D + 1 + 2 * w
      · rw [if_pos h2]
        refine CallOk.run0 Try.func37 rfl rfl rfl rfl rfl (WpR.of_vc ?_)
        (conv => whnf); (repeat' (first | ((with_reducible refine ifb_mk (fun hc => ?_) (fun hc => ?_)) <;> ((try simp only [decide_eq_true_eq, decide_eq_false_iff_not, Bool.not_eq_true', Bool.not_eq_false', Int.not_lt, Int.not_le, ne_eq, Decidable.not_not, beq_iff_eq, List.cons.injEq, and_true] at hc); (first | (exfalso; omega) | exact absurd True.intro hc | conv => whnf))) | ((with_reducible refine And.intro True.intro ?_); conv => whnf) | ((with_reducible refine CallX.all ?_); refine CallW.of_ok (kC _) ?_; conv => whnf) | ((with_reducible refine grd_ex ?_); refine ex_ok (kC _) ?_; conv => whnf) | ((with_reducible refine And.intro ?hh ?_); (case hh => exact condA); conv => whnf) | fail))
        all_goals first | (refine ⟨[], ?_, rfl, rfl, trivial, trivs⟩; simp only [renV, renL]; (first | done | rfl | (simp; done) | (simp; omega) | grind)) | (exfalso; omega)
      · rw [if_neg h2] at he; exact absurd rfl he
    · rw [if_neg h1]
      refine CallOk.run0 Try.func37 rfl rfl rfl rfl rfl (WpR.of_vc ?_)
      (conv => whnf); (repeat' (first | ((with_reducible refine ifb_mk (fun hc => ?_) (fun hc => ?_)) <;> ((try simp only [decide_eq_true_eq, decide_eq_false_iff_not, Bool.not_eq_true', Bool.not_eq_false', Int.not_lt, Int.not_le, ne_eq, Decidable.not_not, beq_iff_eq, List.cons.injEq, and_true] at hc); (first | (exfalso; omega) | exact absurd True.intro hc | conv => whnf))) | ((with_reducible refine And.intro True.intro ?_); conv => whnf) | ((with_reducible refine CallX.all ?_); refine CallW.of_ok (kC _) ?_; conv => whnf) | ((with_reducible refine grd_ex ?_); refine ex_ok (kC _) ?_; conv => whnf) | ((with_reducible refine And.intro ?hh ?_); (case hh => exact condA); conv => whnf) | fail))
      all_goals first | (refine ⟨[], ?_, rfl, rfl, trivial, trivs⟩; simp only [renV, renL]; (first | done | rfl | (simp; done) | (simp; omega) | grind)) | (exfalso; omega)
  · rw [if_neg hv]
    generalize ckL D n a b = c at *
    refine CallOk.run0 Try.func37 rfl rfl rfl rfl rfl (WpR.of_vc ?_)
    (conv => whnf); (repeat' (first | ((with_reducible refine ifb_mk (fun hc => ?_) (fun hc => ?_)) <;> ((try simp only [decide_eq_true_eq, decide_eq_false_iff_not, Bool.not_eq_true', Bool.not_eq_false', Int.not_lt, Int.not_le, ne_eq, Decidable.not_not, beq_iff_eq, List.cons.injEq, and_true] at hc); (first | (exfalso; omega) | exact absurd True.intro hc | conv => whnf))) | ((with_reducible refine And.intro True.intro ?_); conv => whnf) | ((with_reducible refine CallX.all ?_); refine CallW.of_ok (kC _) ?_; conv => whnf) | ((with_reducible refine grd_ex ?_); refine ex_ok (kC _) ?_; conv => whnf) | ((with_reducible refine And.intro ?hh ?_); (case hh => exact condA); conv => whnf) | fail))
    all_goals first | (refine ⟨[], ?_, rfl, rfl, trivial, trivs⟩; simp only [renV, renL]; (first | done | rfl | (simp; done) | (simp; omega) | grind)) | exact absurd (by assumption) hv | (exfalso; omega)
theorem onlys_facts (ex : Bool) (w : Nat) (hO : ckO D n a b w = 0) : ∃ u v : V, ∃ e : Int, (∀ h, CallOk Try.prog 36 [lgV D ex n a b, .int .i64 w] h (.tup [u, .int .i64 e]) h) ∧ (∀ h, CallOk Try.prog 37 [lgV D ex n a b, .int .i64 w] h (.tup [v, .int .i64 e]) h) ∧
    ∀ h, CallOk Try.prog 21 [u, v] h (.bool true) h := by
  obtain ⟨hv, hw, hpl⟩ := ckO_ok hO
  obtain ⟨hD0, l⟩ := ckL_lg hv
  have hD : D ≤ 3 := by omega
  have hn := l.le
  have kP := fun h' => paths_ok h' D hD ex n a b l
  have hlen := pq_len D n a b (2 ^ n)
  have h2n : 2 ^ n ≤ 4096 := Nat.pow_le_pow_right (n := 2) (by omega) hn
  have hpn := fun j hj => pn_lt (D := D) (n := n) (a := a) (b := b) (j := j) hj
  obtain ⟨ha1, ha2⟩ := pn_all hD l
  rcases first_of (p := fun j => decide (n ≤ cnF (pF (pqL D n a b (2 ^ n)).reverse j).testBit n + w)) (pqL D n a b (2 ^ n)).length with hno | ⟨j0, hj0, hat, hlo⟩
  · have hno' : ∀ j, j < (pqL D n a b (2 ^ n)).length → cnF (pF (pqL D n a b (2 ^ n)).reverse j).testBit n + w < n := fun j hj => by
      have := of_decide_eq_false (hno j hj); omega
    refine ⟨_, _, _, fun h => onlyP_no h D ex n a b w hO fun g hg => ?_, fun h => onlyR_none h ex hv w (by omega) (by omega) _ _ (by omega) hpn kP hno', longs_nil⟩
    cases hl : lvG D n a b w g with
    | false => rfl
    | true =>
      obtain ⟨g1, g2, g3⟩ := lv_iff.1 hl
      obtain ⟨j, hj, he⟩ := ha2 _ (mpS_all _ g hg g1 g2)
      have := hno' j hj
      rw [he, onC_cn] at this
      omega
  · have hat : n ≤ cnF (pF (pqL D n a b (2 ^ n)).reverse j0).testBit n + w := of_decide_eq_true hat
    obtain ⟨c1, hc1, he1⟩ := ha1 j0 hj0
    obtain ⟨z1, ge1⟩ := (mpS_iff hD l).1 hc1
    have hcn1 : n ≤ cnC n a b c1 + w := by rw [he1, onC_cn] at hat; exact hat
    rcases first_of (p := lvG D n a b w) (2 ^ n) with hnl | ⟨g, hg, hl, hll⟩
    · obtain ⟨g, hg, g1, g2, rfl⟩ := mpS_mem _ hc1
      exact absurd (hnl g hg) (by rw [lv_iff.2 ⟨g1, g2, hcn1⟩]; decide)
    obtain ⟨g1, g2, g3⟩ := lv_iff.1 hl
    have hc0 := mpS_all (D := D) (a := a) (b := b) _ g hg g1 g2
    obtain ⟨z0, _⟩ := (mpS_iff hD l).1 hc0
    have hand := cnF_and (psF (f4 (c4 (crG n a b g))) a b) (psF (f4 c1) a b) n
    have e0 : cnF (psF (f4 (c4 (crG n a b g))) a b) n = cnC n a b (c4 (crG n a b g)) := rfl
    have e1 : cnF (psF (f4 c1) a b) n = cnC n a b c1 := rfl
    have hone := ps_one hD l z0 z1 (by omega)
    have hs : cnF (fsF (onC n a b c1).testBit (D + 1)) n = D + 1 := by rw [fs_cn, onC_cn]; omega
    have ht := ps_th l (s := fsF (onC n a b c1).testBit (D + 1)) (by omega) (p := f4 c1) (fun k h1 h2 => z1 k (by omega) h2) fun i hi hsi => by
      unfold fsF at hsi
      rw [Bool.and_eq_true, onC_bit hi] at hsi
      exact hsi.1
    rw [hs] at ht
    obtain ⟨hal, hth⟩ := ht
    rw [← he1] at hal hth
    refine ⟨_, _, _, fun h => onlyP_yes h D ex n a b w hO g hg hl hll, fun h => onlyR_yes h ex hv w (by omega) (by omega) _ _ (by omega) hpn kP j0 hj0 (fun j hj => by have := of_decide_eq_false (hlo j hj); omega) hat hal, fun h => ?_⟩
    have k := longs_ok h false false (D + 1) (D + 1) (crG n a b g) (fun k => dif (qP (D + 1) (slF (fsF (pF (pqL D n a b (2 ^ n)).reverse j0).testBit (D + 1)) a n) (slF (fsF (pF (pqL D n a b (2 ^ n)).reverse j0).testBit (D + 1)) b n)) k 0) (by omega) (by omega)
    rwa [eqB_t rfl fun i hi => ?_] at k
    have h1 := hone i (by omega)
    rw [f4_at (by omega)] at h1
    rw [h1, ← hth i (by omega)]
    unfold thP
    rw [hal]
    show cut (D + 1) _ i = _
    unfold cut
    rw [if_pos hi]
end
end Go.Proofs.K
namespace Go.Proofs.K
open Go.As
set_option maxRecDepth 20000
theorem leastR_err (h : As.H) (D : Int) (ex : Bool) (n : Nat) (a b : Nat → Int) (hn9 : n ≤ 9223372036854775807) (he : ckL D n a b ≠ 0) : CallOk Try.prog 39 [lgV D ex n a b] h (.tup [.int .i64 0, .int .i64 (ckL D n a b)]) h := by
  have kC := fun h' => checkLogR_ok h' D ex n a b hn9
  generalize ckL D n a b = c at *
  refine CallOk.run0 Try.func39 rfl rfl rfl rfl rfl (WpR.of_vc ?_)
  (conv => whnf); (repeat' (first | ((with_reducible refine ifb_mk (fun hc => ?_) (fun hc => ?_)) <;> ((try simp only [decide_eq_true_eq, decide_eq_false_iff_not, Bool.not_eq_true', Bool.not_eq_false', Int.not_lt, Int.not_le, ne_eq, Decidable.not_not, beq_iff_eq, List.cons.injEq, and_true] at hc); (first | (exfalso; omega) | exact absurd True.intro hc | conv => whnf))) | ((with_reducible refine And.intro True.intro ?_); conv => whnf) | ((with_reducible refine CallX.all ?_); refine CallW.of_ok (kC _) ?_; conv => whnf) | ((with_reducible refine grd_ex ?_); refine ex_ok (kC _) ?_; conv => whnf) | ((with_reducible refine And.intro ?hh ?_); (case hh => exact condA); conv => whnf) | fail))
  all_goals first | (refine ⟨[], ?_, rfl, rfl, trivial, trivs⟩; simp only [renV, renL]; (first | done | rfl | (simp; done) | (simp; omega) | grind)) | exact absurd (by assumption) he | (exfalso; omega)
theorem leastR_nil (h : As.H) (D : Int) (ex : Bool) (a b : Nat → Int) (hv : ckL D 0 a b = 0) : CallOk Try.prog 39 [lgV D ex 0 a b] h (.tup [.int .i64 0, .int .i64 0]) h := by
  have kC := fun h' => checkLogR_ok h' D ex 0 a b (by omega)
  rw [hv] at kC
  refine CallOk.run0 Try.func39 rfl rfl rfl rfl rfl (WpR.of_vc ?_)
  (conv => whnf); (repeat' (first | ((with_reducible refine ifb_mk (fun hc => ?_) (fun hc => ?_)) <;> ((try simp only [decide_eq_true_eq, decide_eq_false_iff_not, Bool.not_eq_true', Bool.not_eq_false', Int.not_lt, Int.not_le, ne_eq, Decidable.not_not, beq_iff_eq, List.cons.injEq, and_true] at hc); (first | (exfalso; omega) | exact absurd True.intro hc | conv => whnf))) | ((with_reducible refine And.intro True.intro ?_); conv => whnf) | ((with_reducible refine CallX.all ?_); refine CallW.of_ok (kC _) ?_; conv => whnf) | ((with_reducible refine grd_ex ?_); refine ex_ok (kC _) ?_; conv => whnf) | ((with_reducible refine And.intro ?hh ?_); (case hh => exact condA); conv => whnf) | fail))
  all_goals first | (refine ⟨[], ?_, rfl, rfl, trivial, trivs⟩; simp only [renV, renL]; (first | done | rfl | (simp; done) | (simp; omega) | grind)) | (exfalso; omega)
def frB (n : Nat) (a b : Nat → Int) (d : Nat) : Bool := alW (d + 1) a b && decide (cnF (psF (cut (d + 1) fun k => dif (qP (d + 1) a b) k 0) a b) n = n)
set_option maxHeartbeats 8000000 in
theorem leastR_run (h : As.H) (D : Int) (ex : Bool) (n : Nat) (a b : Nat → Int) (hv : ckL D n a b = 0) (h0 : 0 < n) (m : Nat) (hm : m ≤ 4) (hmn : m ≤ n) (hlo : ∀ d, d < m → frB n a b d = false) (r e : Int) (hat : m < n ∧ m ≤ 3 ∧ frB n a b m = true ∧ r = m ∧ e = 0 ∨ (m = 4 ∨ m = n) ∧ r = 0 ∧ e = 23) :
    CallOk Try.prog 39 [lgV D ex n a b] h (.tup [.int .i64 r, .int .i64 e]) h := by
  obtain ⟨hD, l⟩ := ckL_lg hv
  have hn := l.le
  have kC := fun h' => checkLogR_ok h' D ex n a b (by omega)
  rw [hv] at kC
  have hP : ∀ d, d < n → d ≤ 3 → (alW (d + 1) a b = true ∧ ∃ P : Nat → Int, ∃ O S : Nat, (∀ h' e s q g, s = 2 → q = d + 1 → g = lkG a b → CallOk Try.prog 64 [.rsl e s q g] h' (.tup [.rsl false 1 (d + 1) (iG P), .bool true]) h') ∧
      (∀ h', CallOk Try.prog 43 [.rsl ex 2 n (lkG a b), .rsl false 1 (d + 1) (iG P)] h' (.int .i64 O) h') ∧ (∀ h', CallOk Try.prog 42 [.int .i64 O] h' (.int .i64 S) h') ∧ (S = n ↔ frB n a b d = true)) ∨
      (frB n a b d = false ∧ ∀ h' e s q g, s = 2 → q = d + 1 → g = lkG a b → CallOk Try.prog 64 [.rsl e s q g] h' (.tup [.nils, .bool false]) h') := fun d hdn hd3 => by
    have hdy : Dy (d + 1) a := ⟨by omega, fun j hj => l.rg j (by omega), fun i j hi hj => l.up i j (by omega) hj⟩
    have hpl : Pl (d + 1) b := fun j hj => l.at' j (by omega)
    have k := fun (h' : As.H) e => pass_ok h' e (d + 1) (by omega) a b hdy hpl
    cases hw : alW (d + 1) a b with
    | false =>
      rw [hw] at k
      exact .inr ⟨by unfold frB; rw [hw]; rfl, fun h' e s q g hs hq hg => by subst hs; subst hq; subst hg; exact k h' e⟩
    | true =>
      rw [hw] at k
      have hsm := csP_sm2 hdy hpl
      have hP4 : ∀ k, k < d + 1 → -700000000000 ≤ dif (qP (d + 1) a b) k 0 ∧ dif (qP (d + 1) a b) k 0 ≤ 700000000000 := fun k hk => by
        have h1 := hsm k (by omega)
        have e : thP (d + 1) a b k = dif (qP (d + 1) a b) k 0 := by
          unfold thP
          rw [hw]
          show cut (d + 1) _ k = _
          unfold cut
          rw [if_pos hk]
        rw [← e]; omega
      have o1 := onN_lt (ps := pmF (d + 1) (fun k => dif (qP (d + 1) a b) k 0) a b) n
      have h2n : 2 ^ n ≤ 4096 := Nat.pow_le_pow_right (n := 2) (by omega) hn
      refine .inl ⟨rfl, _, onN (pmF (d + 1) (fun k => dif (qP (d + 1) a b) k 0) a b) n, _, fun h' e s q g hs hq hg => by subst hs; subst hq; subst hg; exact k h' e, fun h' => on_ok h' ex false n hn a b l.rg (d + 1) (by omega) _ fun k hk => by have := hP4 k hk; omega, fun h' => sizeR_ok h' _ (by omega), ?_⟩
      rw [cnF_low o1 (by omega)]
      have e : cnF (onN (pmF (d + 1) (fun k => dif (qP (d + 1) a b) k 0) a b) n).testBit n = cnF (psF (cut (d + 1) fun k => dif (qP (d + 1) a b) k 0) a b) n := cnF_congr n fun i hi => by
        rw [onN_bit, decide_eq_true hi, Bool.true_and]
        exact pmF_eq (by omega) i
      rw [e]
      unfold frB
      rw [hw, Bool.true_and, decide_eq_true_eq]
  refine CallOk.run0 Try.func39 rfl rfl rfl rfl rfl (WpR.of_vc ?_)
  (conv => whnf); (repeat' (first | ((with_reducible refine ifb_mk (fun hc => ?_) (fun hc => ?_)) <;> ((try simp only [decide_eq_true_eq, decide_eq_false_iff_not, Bool.not_eq_true', Bool.not_eq_false', Int.not_lt, Int.not_le, ne_eq, Decidable.not_not, beq_iff_eq, List.cons.injEq, and_true] at hc); (first | (exfalso; omega) | exact absurd True.intro hc | conv => whnf))) | ((with_reducible refine And.intro True.intro ?_); conv => whnf) | ((with_reducible refine CallX.all ?_); refine CallW.of_ok (kC _) ?_; conv => whnf) | ((with_reducible refine grd_ex ?_); refine ex_ok (kC _) ?_; conv => whnf) | ((with_reducible refine And.intro ?hh ?_); (case hh => exact condA); conv => whnf) | fail))
  all_goals first | (exfalso; omega) | skip
  refine WpR.loopA (ι := Nat) [] [1, 4] [] [] 1 (fun p => [(5, .int .i64 p)]) (fun p => []) (fun p => 5 - p) (fun p => p ≤ m) ?_ (0) (Nat.zero_le _) [] Back.auto
  intro d hd
  refine WpR.of_vc ?_
  by_cases hdm : d < m
  · have hf := hlo d hdm
    rcases hP d (by omega) (by omega) with ⟨hw, P, O, S, kP, kO, kS, hS⟩ | ⟨hf2, kP⟩
    · rw [hf] at hS
      have hSn : S ≠ n := fun h => by have := hS.1 h; cases this
      (conv => whnf); (repeat' (first | ((with_reducible refine ifb_mk (fun hc => ?_) (fun hc => ?_)) <;> ((try simp only [decide_eq_true_eq, decide_eq_false_iff_not, Bool.not_eq_true', Bool.not_eq_false', Int.not_lt, Int.not_le, ne_eq, Decidable.not_not, beq_iff_eq, List.cons.injEq, and_true] at hc); (first | (exfalso; omega) | exact absurd True.intro hc | conv => whnf))) | ((with_reducible refine And.intro True.intro ?_); conv => whnf) | ((with_reducible refine CallX.all ?_); refine CallW.of_ok (kP _ _ _ _ _ rfl rfl (funext fun i => congrArg (lkG a b) (Nat.zero_add i))) ?_; conv => whnf) | ((with_reducible refine CallX.all ?_); refine CallW.of_ok (kO _) ?_; conv => whnf) | ((with_reducible refine grd_ex ?_); refine ex_ok (kO _) ?_; conv => whnf) | ((with_reducible refine CallX.all ?_); refine CallW.of_ok (kS _) ?_; conv => whnf) | ((with_reducible refine grd_ex ?_); refine ex_ok (kS _) ?_; conv => whnf) | ((with_reducible refine And.intro ?hh ?_); (case hh => exact condA); conv => whnf) | fail))
      all_goals first | (exfalso; omega) | exact ⟨d + 1, [], by omega, by omega, Back.auto⟩
    · (conv => whnf); (repeat' (first | ((with_reducible refine ifb_mk (fun hc => ?_) (fun hc => ?_)) <;> ((try simp only [decide_eq_true_eq, decide_eq_false_iff_not, Bool.not_eq_true', Bool.not_eq_false', Int.not_lt, Int.not_le, ne_eq, Decidable.not_not, beq_iff_eq, List.cons.injEq, and_true] at hc); (first | (exfalso; omega) | exact absurd True.intro hc | conv => whnf))) | ((with_reducible refine And.intro True.intro ?_); conv => whnf) | ((with_reducible refine CallX.all ?_); refine CallW.of_ok (kP _ _ _ _ _ rfl rfl (funext fun i => congrArg (lkG a b) (Nat.zero_add i))) ?_; conv => whnf) | ((with_reducible refine And.intro ?hh ?_); (case hh => exact condA); conv => whnf) | fail))
      all_goals first | (exfalso; omega) | exact ⟨d + 1, [], by omega, by omega, Back.auto⟩
  · have ed : d = m := by omega
    subst ed
    rcases hat with ⟨h1, h2, h3, rfl, rfl⟩ | ⟨h1, rfl, rfl⟩
    · rcases hP d (by omega) (by omega) with ⟨hw, P, O, S, kP, kO, kS, hS⟩ | ⟨hf2, kP⟩
      · rw [h3] at hS
        have hSn : S = n := hS.2 rfl
        (conv => whnf); (repeat' (first | ((with_reducible refine ifb_mk (fun hc => ?_) (fun hc => ?_)) <;> ((try simp only [decide_eq_true_eq, decide_eq_false_iff_not, Bool.not_eq_true', Bool.not_eq_false', Int.not_lt, Int.not_le, ne_eq, Decidable.not_not, beq_iff_eq, List.cons.injEq, and_true] at hc); (first | (exfalso; omega) | exact absurd True.intro hc | conv => whnf))) | ((with_reducible refine And.intro True.intro ?_); conv => whnf) | ((with_reducible refine CallX.all ?_); refine CallW.of_ok (kP _ _ _ _ _ rfl rfl (funext fun i => congrArg (lkG a b) (Nat.zero_add i))) ?_; conv => whnf) | ((with_reducible refine CallX.all ?_); refine CallW.of_ok (kO _) ?_; conv => whnf) | ((with_reducible refine grd_ex ?_); refine ex_ok (kO _) ?_; conv => whnf) | ((with_reducible refine CallX.all ?_); refine CallW.of_ok (kS _) ?_; conv => whnf) | ((with_reducible refine grd_ex ?_); refine ex_ok (kS _) ?_; conv => whnf) | ((with_reducible refine And.intro ?hh ?_); (case hh => exact condA); conv => whnf) | fail))
        all_goals first | (refine ⟨[], ?_, rfl, rfl, trivial, trivs⟩; simp only [renV, renL]; (first | done | rfl | (simp; done) | (simp; omega) | grind)) | (exfalso; omega)
      · rw [h3] at hf2; cases hf2
    · (conv => whnf); (repeat' (first | ((with_reducible refine ifb_mk (fun hc => ?_) (fun hc => ?_)) <;> ((try simp only [decide_eq_true_eq, decide_eq_false_iff_not, Bool.not_eq_true', Bool.not_eq_false', Int.not_lt, Int.not_le, ne_eq, Decidable.not_not, beq_iff_eq, List.cons.injEq, and_true] at hc); (first | (exfalso; omega) | exact absurd True.intro hc | conv => whnf))) | ((with_reducible refine And.intro True.intro ?_); conv => whnf) | ((with_reducible refine And.intro ?hh ?_); (case hh => exact condA); conv => whnf) | fail))
      all_goals first | (refine ⟨[], ?_, rfl, rfl, trivial, trivs⟩; simp only [renV, renL]; (first | done | rfl | (simp; done) | (simp; omega) | grind)) | (exfalso; omega)
end Go.Proofs.K
namespace Go.Proofs.K
open Go.As
set_option maxRecDepth 20000
section
variable {D n : Nat} {a b : Nat → Int}
theorem thd {d k : Nat} (hw : alW (d + 1) a b = true) (hk : k < d + 1) : thP (d + 1) a b k = dif (qP (d + 1) a b) k 0 := by
  unfold thP
  rw [hw]
  show cut (d + 1) _ k = _
  unfold cut
  rw [if_pos hk]
theorem fr_ls (l : Lg n a b) {d : Nat} (hd : d ≤ 3) (hdn : d < n) (h : frB n a b d = true) : lsB n a b = true ∧ dgF (lsP n a b) ≤ d := by
  unfold frB at h
  rw [Bool.and_eq_true, decide_eq_true_eq, ← cnC_eq] at h
  obtain ⟨h1, h2, _⟩ := ls_all hd l ((mpS_iff hd l).2 ⟨fun k k1 k2 => by rw [f4_at k2]; exact cut_z _ k k1 k2, by omega⟩) h.2
  exact ⟨h1, h2⟩
theorem ls_fr (l : Lg n a b) (hn : 0 < n) (h : lsB n a b = true) : dgF (lsP n a b) < n ∧ frB n a b (dgF (lsP n a b)) = true := by
  obtain ⟨h3, hc, hcn⟩ := ls_least l hn h
  obtain ⟨hz, hge⟩ := (mpS_iff h3 l).1 hc
  generalize dgF (lsP n a b) = d at *
  generalize c4 (lsP n a b) = c at *
  have hdn : d < n := by omega
  have hdy : Dy (d + 1) a := ⟨by omega, fun j hj => l.rg j (by omega), fun i j hi hj => l.up i j (by omega) hj⟩
  have hon := fun i hi => cnF_full (p := psF (f4 c) a b) n hcn i hi
  obtain ⟨h1, h2⟩ := th_of hdy (y := b) (f4 c) fun m hm => by
    rw [← plc_z (by omega) fun k k1 k2 => hz k (by omega) k2]
    exact psF_at.1 (hon m (by omega))
  refine ⟨hdn, ?_⟩
  unfold frB
  rw [h1, Bool.true_and, psF_congr (q := f4 c) fun k hk => ?_]
  · exact decide_eq_true hcn
  · unfold cut
    by_cases e : k < d + 1
    · rw [if_pos e]
      exact (thd h1 e).symm.trans (h2 k e)
    · rw [if_neg e, hz k (by omega) hk]
theorem leasts_facts (ex : Bool) (D : Int) (hv : ckL D n a b = 0) : ∃ r e : Int, (∀ h, CallOk Try.prog 38 [lgV D ex n a b] h (.tup [.int .i64 r, .int .i64 e]) h) ∧ ∀ h, CallOk Try.prog 39 [lgV D ex n a b] h (.tup [.int .i64 r, .int .i64 e]) h := by
  obtain ⟨hD, l⟩ := ckL_lg hv
  have hn := l.le
  have kL := fun h => leastP_ok h D ex n a b (by omega) hv (lsP n a b) rfl (lsB n a b) rfl
  by_cases h0 : n = 0
  · subst h0
    rw [ls_nil.1, ls_nil.2] at kL
    exact ⟨_, _, kL, fun h => leastR_nil h D ex a b hv⟩
  cases hz : lsB n a b with
  | true =>
    obtain ⟨h1, h2⟩ := ls_fr l (by omega) hz
    have h3 := (ls_least l (by omega) hz).1
    rw [hz, if_pos rfl, if_pos rfl] at kL
    refine ⟨_, _, kL, fun h => leastR_run h D ex n a b hv (by omega) (dgF (lsP n a b)) (by omega) (by omega) (fun d hd => ?_) _ _ (.inl ⟨h1, h3, h2, rfl, rfl⟩)⟩
    cases hf : frB n a b d with
    | false => rfl
    | true =>
      have := (fr_ls l (by omega) (by omega) hf).2
      omega
  | false =>
    rw [hz, if_neg Bool.false_ne_true, if_neg Bool.false_ne_true] at kL
    refine ⟨_, _, kL, fun h => leastR_run h D ex n a b hv (by omega) (min 4 n) (by omega) (by omega) (fun d hd => ?_) _ _ (.inr ⟨by omega, rfl, rfl⟩)⟩
    cases hf : frB n a b d with
    | false => rfl
    | true =>
      have := (fr_ls l (by omega) (by omega) hf).1
      rw [hz] at this; cases this
end
theorem leastP_err (h : As.H) (D : Int) (ex : Bool) (n : Nat) (a b : Nat → Int) (hn : n ≤ 9223372036854775807) (he : ckL D n a b ≠ 0) : CallOk Try.prog 38 [lgV D ex n a b] h (.tup [.int .i64 0, .int .i64 (ckL D n a b)]) h := by
  have kE := fun h' => sheetFor_err h' D ex n a b hn he
  generalize ckL D n a b = e at *
  refine CallOk.run0 Try.func38 rfl rfl rfl rfl rfl (WpR.of_vc ?_)
  (conv => whnf); (repeat' (first | ((with_reducible refine ifb_mk (fun hc => ?_) (fun hc => ?_)) <;> ((try simp only [decide_eq_true_eq, decide_eq_false_iff_not, Bool.not_eq_true', Bool.not_eq_false', Int.not_lt, Int.not_le, ne_eq, Decidable.not_not, beq_iff_eq, List.cons.injEq, and_true] at hc); (first | (exfalso; omega) | exact absurd True.intro hc | conv => whnf))) | ((with_reducible refine And.intro True.intro ?_); conv => whnf) | ((with_reducible refine CallX.all ?_); refine CallW.of_ok (kE _) ?_; conv => whnf) | ((with_reducible refine And.intro ?hh ?_); (case hh => exact condA); conv => whnf) | fail))
  all_goals first | (refine ⟨[], ?_, rfl, rfl, trivial, trivs⟩; simp only [renV, renL]; (first | done | rfl | (simp; done) | (simp; omega) | grind)) | exact absurd (by assumption) he | (exfalso; omega)
set_option maxHeartbeats 16000000 in
theorem lawOnlys (h : As.H) (D : Int) (n : Nat) (a b : Nat → Int) (hn : n ≤ 9223372036854775807) (x : Int) :
    CallOk Try.prog 6 [lgV D false n a b, .int .i64 x] h (.bool true) h := by
  have kWk := fun h : As.H => wwhole.everywhere rfl h
  by_cases hg : 20 < n
  · refine CallOk.run0 Try.func6 rfl rfl rfl rfl rfl (WpR.of_vc ?_)
    (conv => whnf); (repeat' (first | ((with_reducible refine ifb_mk (fun hc => ?_) (fun hc => ?_)) <;> ((try simp only [decide_eq_true_eq, decide_eq_false_iff_not, Bool.not_eq_true', Bool.not_eq_false', Int.not_lt, Int.not_le, ne_eq, Decidable.not_not, beq_iff_eq, List.cons.injEq, and_true] at hc); (first | (exfalso; omega) | exact absurd True.intro hc | conv => whnf))) | ((with_reducible refine And.intro True.intro ?_); conv => whnf) | ((with_reducible refine CallX.all ?_); refine CallW.of_ok (kWk _) ?_; conv => whnf) | ((with_reducible refine CallX.all (f := 22) ?_); refine CallW.inline Try.func22 rfl rfl (Nat.le_of_ble_eq_true rfl) (WpR.of_vc ?_); conv => whnf) | ((with_reducible refine And.intro ?hh ?_); (case hh => exact condA); conv => whnf) | fail))
    all_goals first | (refine ⟨[], ?_, rfl, rfl, trivial, trivs⟩; simp only [renV, renL]; (first | done | rfl | (simp; done) | (simp; omega) | grind)) | (exfalso; omega)
  have k1 : ∃ u v : V, ∃ e : Int, (∀ h, CallOk Try.prog 36 [lgV D false n a b, .int .i64 x] h (.tup [u, .int .i64 e]) h) ∧ (∀ h, CallOk Try.prog 37 [lgV D false n a b, .int .i64 x] h (.tup [v, .int .i64 e]) h) ∧
      ∀ h, CallOk Try.prog 21 [u, v] h (.bool true) h := by
    by_cases hO : ckO D n a b x = 0
    · obtain ⟨hv, hw, _⟩ := ckO_ok hO
      obtain ⟨hD, _⟩ := ckL_lg hv
      obtain ⟨d, rfl⟩ : ∃ d : Nat, D = (d : Int) := ⟨D.toNat, by omega⟩
      obtain ⟨y, rfl⟩ : ∃ y : Nat, x = (y : Int) := ⟨x.toNat, by omega⟩
      exact onlys_facts false y hO
    · exact ⟨_, _, _, fun h => onlyP_err h D false n a b hn x hO, fun h => onlyR_err h D false hn x hO, longs_nil⟩
  have k2 : ∃ r e : Int, (∀ h, CallOk Try.prog 38 [lgV D false n a b] h (.tup [.int .i64 r, .int .i64 e]) h) ∧ ∀ h, CallOk Try.prog 39 [lgV D false n a b] h (.tup [.int .i64 r, .int .i64 e]) h := by
    by_cases hv : ckL D n a b = 0
    · exact leasts_facts false D hv
    · exact ⟨_, _, fun h => leastP_err h D false n a b hn hv, fun h => leastR_err h D false n a b hn hv⟩
  obtain ⟨u, v, e, c1, c2, c3⟩ := k1
  obtain ⟨r, f, c4, c5⟩ := k2
  refine CallOk.run0 Try.func6 rfl rfl rfl rfl rfl (WpR.of_vc ?_)
  (conv => whnf); (repeat' (first | ((with_reducible refine ifb_mk (fun hc => ?_) (fun hc => ?_)) <;> ((try simp only [decide_eq_true_eq, decide_eq_false_iff_not, Bool.not_eq_true', Bool.not_eq_false', Int.not_lt, Int.not_le, ne_eq, Decidable.not_not, beq_iff_eq, List.cons.injEq, and_true] at hc); (first | (exfalso; omega) | exact absurd True.intro hc | conv => whnf))) | ((with_reducible refine And.intro True.intro ?_); conv => whnf) | ((with_reducible refine CallX.all ?_); refine CallW.of_ok (kWk _) ?_; conv => whnf) | ((with_reducible refine grd_ex ?_); refine ex_ok (kWk _) ?_; conv => whnf) | ((with_reducible refine CallX.all ?_); refine CallW.of_ok (c1 _) ?_; conv => whnf) | ((with_reducible refine CallX.all ?_); refine CallW.of_ok (c2 _) ?_; conv => whnf) | ((with_reducible refine CallX.all ?_); refine CallW.of_ok (c3 _) ?_; conv => whnf) | ((with_reducible refine grd_ex ?_); refine ex_ok (c3 _) ?_; conv => whnf) | ((with_reducible refine CallX.all ?_); refine CallW.of_ok (c4 _) ?_; conv => whnf) | ((with_reducible refine CallX.all ?_); refine CallW.of_ok (c5 _) ?_; conv => whnf) | ((with_reducible refine CallX.all (f := 22) ?_); refine CallW.inline Try.func22 rfl rfl (Nat.le_of_ble_eq_true rfl) (WpR.of_vc ?_); conv => whnf) | ((with_reducible refine And.intro ?hh ?_); (case hh => exact condA); conv => whnf) | fail))
  all_goals first | (refine ⟨[], ?_, rfl, rfl, trivial, trivs⟩; simp only [renV, renL]; (first | done | rfl | (simp; done) | (simp; omega) | grind)) | (exfalso; omega)
end Go.Proofs.K
