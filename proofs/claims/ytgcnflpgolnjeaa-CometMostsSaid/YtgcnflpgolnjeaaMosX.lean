/- What the functions answer that the laws call, one after another (MosX). -/
import Derived.Test.YtgcnflpgolnjeaaB0
import Derived.Test.YtgcnflpgolnjeaaB7
import Derived.Test.YtgcnflpgolnjeaaTh
import Derived.Test.YtgcnflpgolnjeaaB10
import Derived.Test.YtgcnflpgolnjeaaBst
import Derived.Test.YtgcnflpgolnjeaaMst
import Derived.Test.YtgcnflpgolnjeaaBso
import Derived.Test.YtgcnflpgolnjeaaPth
import Derived.Test.YtgcnflpgolnjeaaKnd
import Derived.Test.YtgcnflpgolnjeaaChk
import Derived.Test.YtgcnflpgolnjeaaThr
import Derived.Test.YtgcnflpgolnjeaaLst
import Derived.Test.YtgcnflpgolnjeaaExa
import Derived.Test.YtgcnflpgolnjeaaWk
import Derived.Test.YtgcnflpgolnjeaaUni
import GoSem.Step
import Derived.KernelRfl
import Derived.Laws.World
import Derived.Laws.Sem
import Derived.Laws.Cells
import Derived.Laws.IdiomCopy
import Derived.Maps.RangeRun
import Derived.Laws.NewFold
import Derived.RangeFuncLeaves
import Derived.LoopNIn
import Derived.RangeFuncRecord
import Derived.OrdersIn
import Derived.ChangeSame
import Derived.Deep.Slices
import Derived.ReadAgain
import Derived.OpenShut
import Derived.Below
import Derived.WalkKit
import Derived.ProofKit
import Derived.Carry
set_option linter.unusedVariables false
set_option linter.unusedSimpArgs false
/- The machine that the proof runs on, part 5 of 6: texts of my own, put together by program. No statement is proved here. -/
/- Calls and rounds carried out where they stand: what code asks, relative to where a call began. -/
namespace Go.As
section
variable {P : Program}
def M.fr (m : M) (r : Nat) : M := ⟨m.pl, fun r' => if r' = r then some none else m.fz r'⟩
end
end Go.As
/- What a piece of code asks, calls and ranges over functions carried out where they stand. -/
/- States of which a part is kept, renamed; loops whose states are told by what changes. -/
/- The machine that the proof runs on, part 6 of 6: texts of my own, put together by program. No statement is proved here. -/
/- Calls carried out in a memory of their own, which hand back new memory. -/
/- Keys of maps; slices that grow; cells of lists. -/
namespace Go.As
end Go.As
/- Contracts. -/
/- Equality of structs and arrays of 64-bit numbers. -/
/- Memories of rounds: a call or a round goes on from one of them to another one. -/
/- Loops of few rounds, one round after another. -/
/- Regions that draw their order, but for the operations at their end, which come one after another in each order. -/
/- Slices that grow in a loop. -/
/- What nobody writes any more: what is handed back, taken for a value; the arguments of a law. -/
/- Lists that grow by appends, whatever their elements are; arrays that are filled. -/
namespace Go.As
section
variable {α : Type}
theorem gR_at {e : α → List V} {sz : Nat} (he : ∀ x, (e x).length = sz) : ∀ {l : List α} {i k : Nat} {x : α} {v : V}, l.reverse[i]? = some x → (e x)[k]? = some v → (gR e l)[i * sz + k]? = some v
  | [], i, k, x, v, h, _ => by simp at h
  | y :: l, i, k, x, v, h, hk => by
    show (gR e l ++ e y)[i * sz + k]? = _
    have hks : k < sz := by have := (List.getElem?_eq_some_iff.1 hk).1; rwa [he] at this
    have hl : l.reverse.length = l.length := List.length_reverse
    rw [List.reverse_cons] at h
    by_cases hi : i < l.length
    · rw [List.getElem?_append_left (by rw [hl]; exact hi)] at h
      have := gR_at he h hk
      rw [List.getElem?_append_left ((List.getElem?_eq_some_iff.1 this).1)]
      exact this
    · have hlt := (List.getElem?_eq_some_iff.1 h).1
      rw [List.length_append, hl, List.length_singleton] at hlt
      have hi' : i = l.length := by omega
      subst hi'
      rw [List.getElem?_append_right (by rw [hl]; omega), hl, Nat.sub_self] at h
      have hx : y = x := by simpa using h
      subst hx
      have hg := gR_len he l
      rw [List.getElem?_append_right (by omega), hg, show l.length * sz + k - l.length * sz = k from by omega]
      exact hk
noncomputable def gNew (sz : Nat) (e : α → List V) : List α → List Blk
  | [] => []
  | x :: l => [grB sz (gR e (x :: l)) (l.length + 1)]
theorem gNew_wr {sz : Nat} {e : α → List V} {l : List α} : ∀ b ∈ gNew sz e l, b.wr = true := by
  cases l with
  | nil => intro b h; cases h
  | cons x l => intro b h; rw [List.mem_singleton.1 h]; rfl
theorem grSh (vs : Vw) (n k sz i m : Nat) (e : α → List V) (l : List α) (hm : i + (gNew sz e l).length ≤ m) : ShV vs n k m (grV (n + i) l.length) (grV (k + i) l.length) := by
  cases l with
  | nil => exact .bare rfl
  | cons x l => exact .sl (i := i) (by have : (gNew sz e (x :: l)).length = 1 := rfl; omega) rfl rfl
theorem grBs {vs : Vw} {n k m sz : Nat} {e : α → List V} (hb : ∀ x, ∀ v ∈ e x, bare0 v = true) {l : List α} {i : Nat} {b : Blk} (h : (gNew sz e l)[i]? = some b) : b.wr = true ∧ ShB vs n k m b b := by
  cases l with
  | nil => simp [gNew] at h
  | cons x l =>
    cases i with
    | zero => have e1 : grB sz (gR e (x :: l)) (l.length + 1) = b := Option.some.inj h; subst e1; exact ⟨rfl, .bare (ofL_bare (gR_bare hb))⟩
    | succ i => simp [gNew] at h
theorem grFz {n0 i sz : Nat} {e : α → List V} (he : ∀ x, (e x).length = sz) (hb : ∀ x, ∀ v ∈ e x, bare0 v = true) {l : List α} {news : List Blk} (hn : ∀ b, (gNew sz e l)[0]? = some b → news[i]? = some b) {g : Nat → List V} (hg : ∀ j x, l.reverse[j]? = some x → g j = e x) :
    Fz n0 news (grV (n0 + i) l.length) (.rsl false sz l.length g) := by
  cases l with
  | nil => exact .nil
  | cons x l =>
    have hx : ∀ j, j < (x :: l).length → ∃ y, (x :: l).reverse[j]? = some y := fun j hj => by
      have : j < (x :: l).reverse.length := by rw [List.length_reverse]; exact hj
      exact ⟨_, List.getElem?_eq_getElem this⟩
    refine .sl (i := i) rfl (hn _ rfl) (fun h => by cases h) (Nat.le_refl _) (fun j hj => ?_) (fun j hj k v hk => ?_)
    · obtain ⟨y, hy⟩ := hx j hj
      rw [hg j y hy]; exact he y
    · obtain ⟨y, hy⟩ := hx j hj
      rw [hg j y hy] at hk
      refine ⟨get_ofL0 ?_, hb y v (List.mem_of_getElem? hk)⟩
      rw [Nat.zero_add]
      exact gR_at he hy hk
theorem gr_freeze {P : Program} {f : FuncId} {args : List V} {h : H} {sz : Nat} {e : α → List V} (he : ∀ x, (e x).length = sz) (hb : ∀ x, ∀ v ∈ e x, bare0 v = true) {l : List α} (hc : CallOk P f args h (grV h.n l.length) (addBs h (gNew sz e l))) {g : Nat → List V}
    (hg : ∀ j x, l.reverse[j]? = some x → g j = e x) : CallOk P f args h (.rsl false sz l.length g) h :=
  CallOk.freeze hc (grFz (i := 0) he hb (fun _ h => h) hg) gNew_wr
end
end Go.As
/- A closed run whose answer tells of new blocks, known in every memory. -/
/- Calls that write to some blocks of the memory, where they are: known in a memory of these alone. -/
namespace Go.Proofs.K
theorem d9a {p : Prop} [Decidable p] : (decide p = true) = p := decide_eq_true_eq
theorem d9b {p : Prop} [Decidable p] : decide p = false ↔ ¬p := decide_eq_false_iff_not
theorem d9c {p : Prop} [Decidable p] : ¬¬p ↔ p := Decidable.not_not
open Go.As
set_option maxRecDepth 20000
theorem pathP_none (h : As.H) (D : Nat) (hD : D ≤ 3) (ex : Bool) (n : Nat) (a b : Nat → Int) (hv : ckL D n a b = 0) (hF : mpS D n a b (2 ^ n) = []) :
    CallOk Try.prog 35 [lgV D ex n a b] h (.tup [.nils, .int .i64 23]) h := by
  have kB := fun h' => bestN_e h' D hD ex n a b hv hF
  refine CallOk.run0 Try.func35 rfl rfl rfl rfl rfl (WpR.of_vc ?_)
  (conv => whnf); (repeat' (first | ((with_reducible refine ifb_mk (fun hc => ?_) (fun hc => ?_)) <;> ((try simp only [d9a, d9b, Bool.not_eq_true', Bool.not_eq_false', Int.not_lt, Int.not_le, ne_eq, d9c, beq_iff_eq, List.cons.injEq, and_true] at hc); (first | (exfalso; omega) | exact absurd True.intro hc | conv => whnf))) | ((with_reducible refine And.intro True.intro ?_); conv => whnf) | ((with_reducible refine CallX.all ?_); refine CallW.of_ok (kB _) ?_; conv => whnf) | ((with_reducible refine And.intro ?hh ?_); (case hh => exact condA); conv => whnf) | fail))
  all_goals first | (refine ⟨[], ?_, rfl, rfl, trivial, trivs⟩; simp only [renV, renL]; (first | done | rfl | (simp; done) | (simp; omega) | grind)) | (exfalso; omega)
end Go.Proofs.K
namespace Go.Proofs.K
open Go.As
set_option maxRecDepth 20000
theorem bestO_e (h : As.H) (x : Nat) (sv : V) (hsl : SlC h (iVs [(x : Int)]) 1 sv) (D : Nat) (hD : D ≤ 3) (ex : Bool) (n : Nat) (a b : Nat → Int) (hv : ckL D n a b = 0) (hx : x < n) (hF : mpS D n a b (2 ^ n) = []) : CallOk Try.prog 70 [lgV D ex n a b, sv] h (.tup [.nilp, .int .i64 23]) h := by
  have := bestO_new h x sv hsl D hD ex n a b hv (ckL_lg hv).2 hx
  rw [hF] at this
  exact this
theorem kindP_none (h : As.H) (D : Nat) (hD : D ≤ 3) (ex : Bool) (n : Nat) (a b : Nat → Int) (hv : ckL D n a b = 0) (x : Nat) (hx : x < n) (hF : mpS D n a b (2 ^ n) = []) :
    CallOk Try.prog 33 [lgV D ex n a b, .int .i64 x] h (.tup [.int .i64 0, .int .i64 23]) h := by
  have kB := fun (h' : As.H) sv hsl => bestO_e h' x sv hsl D hD ex n a b hv hx hF
  refine CallOk.run0 Try.func33 rfl rfl rfl rfl rfl (WpR.of_vc ?_)
  (conv => whnf); (repeat' (first | ((with_reducible refine ifb_mk (fun hc => ?_) (fun hc => ?_)) <;> ((try simp only [d9a, d9b, Bool.not_eq_true', Bool.not_eq_false', Int.not_lt, Int.not_le, ne_eq, d9c, beq_iff_eq, List.cons.injEq, and_true] at hc); (first | (exfalso; omega) | exact absurd True.intro hc | conv => whnf))) | ((with_reducible refine And.intro True.intro ?_); conv => whnf) | ((with_reducible refine CallX.all ?_); refine CallW.of_ok (kB _ _ (SlC.own rfl)) ?_; conv => whnf) | ((with_reducible refine And.intro ?hh ?_); (case hh => exact condA); conv => whnf) | fail))
  all_goals first | (refine ⟨[], ?_, rfl, rfl, trivial, trivs⟩; simp only [renV, renL]; (first | done | rfl | (simp; done) | (simp; omega) | grind)) | (exfalso; omega)
end Go.Proofs.K
namespace Go.Proofs.K
open Go.As
set_option maxRecDepth 20000
def sgn (i a b : Nat) : Int := if i < a ∧ b ≤ i then -1 else 1
theorem sgn_skip {i a : Nat} (h : i < a) (z : Int) : sgn i a (i + 1) * (z * -1) = sgn i a i * z := by
  unfold sgn
  rw [if_neg (by omega), if_pos ⟨h, Nat.le_refl _⟩]
  omega
theorem sgn_step {i a b : Nat} (h : b ≠ i) : sgn i a (b + 1) = sgn i a b := by
  unfold sgn
  (repeat' split) <;> first | rfl | (exfalso; omega)
theorem sgn_end {i a : Nat} : sgn i a a = 1 := by
  unfold sgn
  rw [if_neg (by omega)]
theorem sgn_zero {i a : Nat} (h : ¬ i < a) : sgn i a 0 = 1 := by
  unfold sgn
  rw [if_neg (by omega)]
theorem sgn_neg {i a : Nat} (h : i < a) : sgn i a 0 = -1 := by
  unfold sgn
  rw [if_pos (by omega)]
theorem sgn_bd {i a b : Nat} {z : Int} (h : -4665600000000000 ≤ z ∧ z ≤ 4665600000000000) : -4665600000000000 ≤ sgn i a b * z ∧ sgn i a b * z ≤ 4665600000000000 := by
  unfold sgn
  split <;> omega
set_option maxHeartbeats 16000000 in
theorem placeR_ok (h : As.H) (ex : Bool) (n : Nat) (x y : Nat → Int) (d : Nat) (hD : Dy n x) (hy : Pl n y) (hd : d ≤ 60) :
    CallOk Try.prog 82 [.rsl ex 2 n (lkG x y), .int .i64 d] h (.tup [.int .i64 (qP n x y d), .bool (whP n x y d)]) h := by
  have hn := hD.le
  have hd' : 0 ≤ (d : Int) ∧ (d : Int) ≤ 60 := by omega
  have hdb := fun i j hi hj => den_bd hD (i := i) (j := j) hi hj
  have hrg := hD.rg
  have hP0 : trP (df x) 0 = 1 := rfl
  have hPs : ∀ i, trP (df x) (i + 1) = trP (df x) i * rwP (df x) i i := fun i => rfl
  have hR0 : ∀ i, rwP (df x) i 0 = 1 := fun i => rfl
  have hRs : ∀ i j, rwP (df x) i (j + 1) = rwP (df x) i j * (x i - x j) := fun i j => rfl
  have hdp := den_pos hD
  have hdl := den_le hD
  have hqb := qP_bd hD hy hd
  unfold qP at hqb ⊢
  unfold whP
  refine CallOk.run0 Try.func82 rfl rfl rfl rfl rfl (WpR.of_vc ?_)
  (conv => whnf); (repeat' (first | ((with_reducible refine ifb_mk (fun hc => ?_) (fun hc => ?_)) <;> ((try simp only [d9a, d9b, Bool.not_eq_true', Bool.not_eq_false', Int.not_lt, Int.not_le, ne_eq, d9c, beq_iff_eq, List.cons.injEq, and_true] at hc); (first | (exfalso; omega) | exact absurd True.intro hc | conv => whnf))) | ((with_reducible refine And.intro True.intro ?_); conv => whnf) | ((with_reducible refine And.intro ?hh ?_); (case hh => exact condA); conv => whnf) | fail))
  refine WpR.loopA (ι := Nat × Int) [] [0, 1, 7] [] [] 0 (fun p => [(8, .int .i64 p.1), (6, .int .i64 p.2)]) (fun _ => []) (fun p => n - p.1) (fun p => p.1 ≤ n ∧ p.2 = trP (df x) p.1) ?_ ((0, 1)) (⟨Nat.zero_le _, hP0.symm⟩) [] Back.auto
  rintro ⟨i, dn⟩ ⟨j1, j2⟩
  dsimp only at j1 j2
  refine WpR.of_vc ?_
  by_cases hi : i < n
  · have hri := hrg i hi
    (conv => whnf); (repeat' (first | ((with_reducible refine ifb_mk (fun hc => ?_) (fun hc => ?_)) <;> ((try simp only [d9a, d9b, Bool.not_eq_true', Bool.not_eq_false', Int.not_lt, Int.not_le, ne_eq, d9c, beq_iff_eq, List.cons.injEq, and_true] at hc); (first | (exfalso; omega) | exact absurd True.intro hc | conv => whnf))) | ((with_reducible refine And.intro True.intro ?_); conv => whnf) | ((with_reducible refine grd_and ?_); refine And.intro (hi) ?_; conv => whnf) | ((with_reducible refine And.intro ?hh ?_); (case hh => exact condA); conv => whnf) | fail))
    refine WpR.loopA (ι := Nat × Int) [] [0, 1, 7, 8] [] [] 0 (fun p => [(9, .int .i64 p.1), (6, .int .i64 p.2)]) (fun _ => []) (fun p => i - p.1) (fun p => p.1 ≤ i ∧ p.2 = trP (df x) i * rwP (df x) i p.1) ?_ ((0, dn)) (⟨Nat.zero_le _, by rw [hR0, j2]; omega⟩) [] Back.auto
    rintro ⟨j, dm⟩ ⟨k1, k2⟩
    dsimp only at k1 k2
    refine WpR.of_vc ?_
    by_cases hj : j < i
    · have hrj := hrg j (by omega)
      have hjn : j < n := by omega
      have b1 := hdb i (j + 1) hi (by omega)
      have e1 : dm * (x i - x j) = trP (df x) i * rwP (df x) i (j + 1) := by rw [k2, hRs, Int.mul_assoc]
      have y1 : InR (dm * (x i - x j)) := by rw [e1]; unfold InR; omega
      have y0 : InR (x i - x j) := by unfold InR; omega
      (conv => whnf); (repeat' (first | ((with_reducible refine ifb_mk (fun hc => ?_) (fun hc => ?_)) <;> ((try simp only [d9a, d9b, Bool.not_eq_true', Bool.not_eq_false', Int.not_lt, Int.not_le, ne_eq, d9c, beq_iff_eq, List.cons.injEq, and_true] at hc); (first | (exfalso; omega) | exact absurd True.intro hc | conv => whnf))) | ((with_reducible refine And.intro True.intro ?_); conv => whnf) | ((with_reducible refine grd_and ?_); refine And.intro (hj) ?_; conv => whnf) | ((with_reducible refine grd_and ?_); refine And.intro (hi) ?_; conv => whnf) | ((with_reducible refine grd_and ?_); refine And.intro (hjn) ?_; conv => whnf) | ((with_reducible refine grd_and ?_); refine And.intro (y0) ?_; conv => whnf) | ((with_reducible refine grd_and ?_); refine And.intro (y1) ?_; conv => whnf) | ((with_reducible refine WpR.draw (id := 8) mixed [0, 1, 2, 3, 4, 5, 6, 7, 8, 9, 10, 11, 12, 13] [0, 0, 0, 6, 14, 30, 0, 0, 192, 448, 960, 2046, 4095, 8191] ?hh ?_); (case hh => kernel_rfl); conv => whnf) | ((with_reducible refine WpR.draw (id := 24) mixed [0, 1, 2, 3, 4, 5, 6, 7, 8, 9, 10, 11, 12, 13] [0, 0, 0, 6, 14, 30, 0, 0, 192, 448, 960, 2046, 4095, 8191] ?hh ?_); (case hh => kernel_rfl); conv => whnf) | ((with_reducible refine WpR.draw (id := 26) mixed [0, 1, 2, 3, 4, 5, 6, 7, 8] [0, 0, 3, 0, 0, 24, 56, 7, 255] ?hh ?_); (case hh => kernel_rfl); conv => whnf) | ((with_reducible refine And.intro ?hh ?_); (case hh => exact condA); conv => whnf) | fail))
      all_goals first | (exfalso; omega) | exact ⟨(j + 1, dm * (x i - x j)), [], by dsimp only; omega, ⟨by dsimp only; omega, e1⟩, Back.auto⟩
    · have e : j = i := by omega
      subst e
      (conv => whnf); (repeat' (first | ((with_reducible refine ifb_mk (fun hc => ?_) (fun hc => ?_)) <;> ((try simp only [d9a, d9b, Bool.not_eq_true', Bool.not_eq_false', Int.not_lt, Int.not_le, ne_eq, d9c, beq_iff_eq, List.cons.injEq, and_true] at hc); (first | (exfalso; omega) | exact absurd True.intro hc | conv => whnf))) | ((with_reducible refine And.intro True.intro ?_); conv => whnf) | ((with_reducible refine grd_and ?_); refine And.intro (hj) ?_; conv => whnf) | ((with_reducible refine And.intro ?hh ?_); (case hh => exact condA); conv => whnf) | fail))
      all_goals first | (exfalso; omega) | exact ⟨(j + 1, dm), [], by dsimp only; omega, ⟨by dsimp only; omega, by dsimp only; rw [hPs, k2]⟩, Back.auto⟩
  · have e : i = n := by omega
    rw [e] at j2
    rw [← j2] at hdp hdl hqb ⊢
    (conv => whnf); (repeat' (first | ((with_reducible refine ifb_mk (fun hc => ?_) (fun hc => ?_)) <;> ((try simp only [d9a, d9b, Bool.not_eq_true', Bool.not_eq_false', Int.not_lt, Int.not_le, ne_eq, d9c, beq_iff_eq, List.cons.injEq, and_true] at hc); (first | (exfalso; omega) | exact absurd True.intro hc | conv => whnf))) | ((with_reducible refine And.intro True.intro ?_); conv => whnf) | ((with_reducible refine grd_and ?_); refine And.intro (hi) ?_; conv => whnf) | ((with_reducible refine And.intro ?hh ?_); (case hh => exact condA); conv => whnf) | fail))
    clear hdb hP0 hPs hR0 hRs e hi j1
    refine WpR.loopA (ι := Nat × Int) [] [0, 1, 6] [] [] 0 (fun p => [(10, .int .i64 p.1), (7, .int .i64 p.2)]) (fun _ => []) (fun p => n - p.1) (fun p => p.1 ≤ n ∧ p.2 = nuP n x y d p.1) ?_ ((0, 0)) (⟨Nat.zero_le _, rfl⟩) [] Back.auto
    rintro ⟨k, nm⟩ ⟨k1, k2⟩
    dsimp only at k1 k2
    refine WpR.of_vc ?_
    by_cases hk : k < n
    · have hyk := hy k hk
      (conv => whnf); (repeat' (first | ((with_reducible refine ifb_mk (fun hc => ?_) (fun hc => ?_)) <;> ((try simp only [d9a, d9b, Bool.not_eq_true', Bool.not_eq_false', Int.not_lt, Int.not_le, ne_eq, d9c, beq_iff_eq, List.cons.injEq, and_true] at hc); (first | (exfalso; omega) | exact absurd True.intro hc | conv => whnf))) | ((with_reducible refine And.intro True.intro ?_); conv => whnf) | ((with_reducible refine grd_and ?_); refine And.intro (hk) ?_; conv => whnf) | ((with_reducible refine And.intro ?hh ?_); (case hh => exact condA); conv => whnf) | fail))
      refine WpR.loopA (ι := Nat × Int) [] [0, 1, 6, 7, 10] [] [] 0 (fun p => [(12, .int .i64 p.1), (11, .int .i64 p.2)]) (fun _ => []) (fun p => n - p.1) (fun p => p.1 ≤ n ∧ p.2 = y k * tmP x d k p.1 * trP (gq x k n) p.1) ?_ ((0, y k)) (⟨Nat.zero_le _, by show y k = y k * 1 * 1; omega⟩) [] Back.auto
      rintro ⟨m, te⟩ ⟨l1, l2⟩
      dsimp only at l1 l2
      refine WpR.of_vc ?_
      by_cases hm : m < n
      · have hts : tmP x d k (m + 1) = tmP x d k m * (if m = k then 1 else (d : Int) - x m) := rfl
        have htp : trP (gq x k n) (m + 1) = trP (gq x k n) m * rwP (gq x k n) m m := rfl
        have hrm := hrg m hm
        by_cases hmk : m = k
        · have e1 : te = y k * tmP x d k (m + 1) * trP (gq x k n) (m + 1) := by
            rw [l2, hts, if_pos hmk, htp, hmk, rw_self x k k (by omega)]
            simp
          have hmk2 : ¬ (m : Int) ≠ k := by omega
          (conv => whnf); (repeat' (first | ((with_reducible refine ifb_mk (fun hc => ?_) (fun hc => ?_)) <;> ((try simp only [d9a, d9b, Bool.not_eq_true', Bool.not_eq_false', Int.not_lt, Int.not_le, ne_eq, d9c, beq_iff_eq, List.cons.injEq, and_true] at hc); (first | (exfalso; omega) | exact absurd True.intro hc | conv => whnf))) | ((with_reducible refine And.intro True.intro ?_); conv => whnf) | ((with_reducible refine grd_and ?_); refine And.intro (hm) ?_; conv => whnf) | ((with_reducible refine And.intro ?hh ?_); (case hh => exact condA); conv => whnf) | fail))
          all_goals first | (exfalso; omega) | exact ⟨(m + 1, te), [], by dsimp only; omega, ⟨by dsimp only; omega, e1⟩, Back.auto⟩
        · have b0 := tr_bd hD hy hd' (j := m + 1) hk (by omega) hm (Nat.zero_le m)
          have hr0 : rwP (gq x k n) m 0 = 1 := rfl
          have e1 : te * ((d : Int) - x m) = y k * tmP x d k (m + 1) * (trP (gq x k n) m * rwP (gq x k n) m 0) := by
            rw [l2, hts, if_neg hmk, hr0, Int.mul_one]
            grind
          have y1 : InR (te * ((d : Int) - x m)) := by rw [e1]; unfold InR; omega
          have y2 : InR ((d : Int) - x m) := by unfold InR; omega
          have y3 : InR (-(te * ((d : Int) - x m))) := by rw [e1]; unfold InR; omega
          have hfin : ∀ tf, tf = sgn k m m * (y k * tmP x d k (m + 1) * (trP (gq x k n) m * rwP (gq x k n) m m)) → tf = y k * tmP x d k (m + 1) * trP (gq x k n) (m + 1) := fun tf h => by rw [h, sgn_end, Int.one_mul, htp]
          have hbd := fun b (hb : b ≤ m) => sgn_bd (i := k) (a := m) (b := b) (tr_bd hD hy hd' (j := m + 1) (i := k) (a := m) (b := b) hk (by omega) hm hb)
          have hst : ∀ b, b < m → b ≠ k → ∀ tf, tf = sgn k m b * (y k * tmP x d k (m + 1) * (trP (gq x k n) m * rwP (gq x k n) m b)) → tf * (x m - x b) = sgn k m (b + 1) * (y k * tmP x d k (m + 1) * (trP (gq x k n) m * rwP (gq x k n) m (b + 1))) := fun b hb hbk tf h => by
            have hg : gq x k n m b = x m - x b := by unfold gq; rw [if_neg (by omega), if_neg (by omega)]
            have hrs : rwP (gq x k n) m (b + 1) = rwP (gq x k n) m b * gq x k n m b := rfl
            rw [h, sgn_step hbk, hrs, hg]
            grind
          have hsk : ∀ b, b < m → b = k → ∀ tf, tf = sgn k m b * (y k * tmP x d k (m + 1) * (trP (gq x k n) m * rwP (gq x k n) m b)) → tf = sgn k m (b + 1) * (y k * tmP x d k (m + 1) * (trP (gq x k n) m * rwP (gq x k n) m (b + 1))) := fun b hb hbk tf h => by
            subst hbk
            have hg : gq x b n m b = -1 := by unfold gq; rw [if_neg (by omega), if_pos (by omega)]
            have hrs : rwP (gq x b n) m (b + 1) = rwP (gq x b n) m b * gq x b n m b := rfl
            rw [h, hrs, hg, ← sgn_skip hb]
            congr 1
            grind
          have hin : ∀ t0 : Int, t0 = sgn k m 0 * (y k * tmP x d k (m + 1) * (trP (gq x k n) m * rwP (gq x k n) m 0)) → True := fun _ _ => trivial
          have hz0 : ¬ k < m → te * ((d : Int) - x m) = sgn k m 0 * (y k * tmP x d k (m + 1) * (trP (gq x k n) m * rwP (gq x k n) m 0)) := fun h => by rw [sgn_zero h, e1, Int.one_mul]
          have hz1 : k < m → -(te * ((d : Int) - x m)) = sgn k m 0 * (y k * tmP x d k (m + 1) * (trP (gq x k n) m * rwP (gq x k n) m 0)) := fun h => by rw [sgn_neg h, e1]; omega
          clear e1 hin hts htp hr0 b0
          generalize (fun b => sgn k m b * (y k * tmP x d k (m + 1) * (trP (gq x k n) m * rwP (gq x k n) m b))) = G at *
          by_cases hkm : k < m
          · have hz := hz1 hkm
            (conv => whnf); (repeat' (first | ((with_reducible refine ifb_mk (fun hc => ?_) (fun hc => ?_)) <;> ((try simp only [d9a, d9b, Bool.not_eq_true', Bool.not_eq_false', Int.not_lt, Int.not_le, ne_eq, d9c, beq_iff_eq, List.cons.injEq, and_true] at hc); (first | (exfalso; omega) | exact absurd True.intro hc | conv => whnf))) | ((with_reducible refine And.intro True.intro ?_); conv => whnf) | ((with_reducible refine grd_and ?_); refine And.intro (hm) ?_; conv => whnf) | ((with_reducible refine grd_and ?_); refine And.intro (y2) ?_; conv => whnf) | ((with_reducible refine grd_and ?_); refine And.intro (y1) ?_; conv => whnf) | ((with_reducible refine grd_and ?_); refine And.intro (y3) ?_; conv => whnf) | ((with_reducible refine And.intro ?hh ?_); (case hh => exact condA); conv => whnf) | fail))
            all_goals first | (exfalso; omega) | skip
            refine WpR.loopA (ι := Nat × Int) [] [0, 1, 6, 7, 10, 12] [] [] 0 (fun p => [(13, .int .i64 p.1), (11, .int .i64 p.2)]) (fun _ => []) (fun p => m - p.1) (fun p => p.1 ≤ m ∧ p.2 = sgn k m p.1 * (y k * tmP x d k (m + 1) * (trP (gq x k n) m * rwP (gq x k n) m p.1))) ?_ ((0, -(te * ((d : Int) - x m)))) (⟨Nat.zero_le _, hz⟩) [] Back.auto
            rintro ⟨b, tf⟩ ⟨i1, i2⟩
            dsimp only at i1 i2
            refine WpR.of_vc ?_
            by_cases hb : b < m
            · have hbn : b < n := by omega
              have hrb := hrg b hbn
              by_cases hbk : b = k
              · have q1 := hsk b hb hbk tf i2
                have hbk2 : (b : Int) = k := by omega
                (conv => whnf); (repeat' (first | ((with_reducible refine ifb_mk (fun hc => ?_) (fun hc => ?_)) <;> ((try simp only [d9a, d9b, Bool.not_eq_true', Bool.not_eq_false', Int.not_lt, Int.not_le, ne_eq, d9c, beq_iff_eq, List.cons.injEq, and_true] at hc); (first | (exfalso; omega) | exact absurd True.intro hc | conv => whnf))) | ((with_reducible refine And.intro True.intro ?_); conv => whnf) | ((with_reducible refine grd_and ?_); refine And.intro (hb) ?_; conv => whnf) | ((with_reducible refine And.intro ?hh ?_); (case hh => exact condA); conv => whnf) | fail))
                all_goals first | (exfalso; omega) | exact ⟨(b + 1, tf), [], by dsimp only; omega, ⟨by dsimp only; omega, q1⟩, Back.auto⟩
              · have q1 := hst b hb hbk tf i2
                have q2 := hbd (b + 1) (by omega)
                have z1 : InR (tf * (x m - x b)) := by rw [q1]; unfold InR; omega
                have z2 : InR (x m - x b) := by unfold InR; omega
                have hbk2 : (b : Int) ≠ k := by omega
                (conv => whnf); (repeat' (first | ((with_reducible refine ifb_mk (fun hc => ?_) (fun hc => ?_)) <;> ((try simp only [d9a, d9b, Bool.not_eq_true', Bool.not_eq_false', Int.not_lt, Int.not_le, ne_eq, d9c, beq_iff_eq, List.cons.injEq, and_true] at hc); (first | (exfalso; omega) | exact absurd True.intro hc | conv => whnf))) | ((with_reducible refine And.intro True.intro ?_); conv => whnf) | ((with_reducible refine grd_and ?_); refine And.intro (hb) ?_; conv => whnf) | ((with_reducible refine grd_and ?_); refine And.intro (hm) ?_; conv => whnf) | ((with_reducible refine grd_and ?_); refine And.intro (hbn) ?_; conv => whnf) | ((with_reducible refine grd_and ?_); refine And.intro (z2) ?_; conv => whnf) | ((with_reducible refine grd_and ?_); refine And.intro (z1) ?_; conv => whnf) | ((with_reducible refine WpR.draw (id := 8) mixed [0, 1, 2, 3, 4, 5, 6, 7, 8, 9, 10, 11, 12, 13] [0, 0, 0, 6, 14, 30, 0, 0, 192, 448, 960, 2046, 4095, 8191] ?hh ?_); (case hh => kernel_rfl); conv => whnf) | ((with_reducible refine WpR.draw (id := 24) mixed [0, 1, 2, 3, 4, 5, 6, 7, 8, 9, 10, 11, 12, 13] [0, 0, 0, 6, 14, 30, 0, 0, 192, 448, 960, 2046, 4095, 8191] ?hh ?_); (case hh => kernel_rfl); conv => whnf) | ((with_reducible refine WpR.draw (id := 26) mixed [0, 1, 2, 3, 4, 5, 6, 7, 8] [0, 0, 3, 0, 0, 24, 56, 7, 255] ?hh ?_); (case hh => kernel_rfl); conv => whnf) | ((with_reducible refine And.intro ?hh ?_); (case hh => exact condA); conv => whnf) | fail))
                all_goals first | (exfalso; omega) | exact ⟨(b + 1, tf * (x m - x b)), [], by dsimp only; omega, ⟨by dsimp only; omega, q1⟩, Back.auto⟩
            · have e : b = m := by omega
              subst e
              have q1 := hfin tf i2
              (conv => whnf); (repeat' (first | ((with_reducible refine ifb_mk (fun hc => ?_) (fun hc => ?_)) <;> ((try simp only [d9a, d9b, Bool.not_eq_true', Bool.not_eq_false', Int.not_lt, Int.not_le, ne_eq, d9c, beq_iff_eq, List.cons.injEq, and_true] at hc); (first | (exfalso; omega) | exact absurd True.intro hc | conv => whnf))) | ((with_reducible refine And.intro True.intro ?_); conv => whnf) | ((with_reducible refine grd_and ?_); refine And.intro (hb) ?_; conv => whnf) | ((with_reducible refine And.intro ?hh ?_); (case hh => exact condA); conv => whnf) | fail))
              all_goals first | (exfalso; omega) | exact ⟨(b + 1, tf), [], by dsimp only; omega, ⟨by dsimp only; omega, q1⟩, Back.auto⟩
          · have hz := hz0 hkm
            (conv => whnf); (repeat' (first | ((with_reducible refine ifb_mk (fun hc => ?_) (fun hc => ?_)) <;> ((try simp only [d9a, d9b, Bool.not_eq_true', Bool.not_eq_false', Int.not_lt, Int.not_le, ne_eq, d9c, beq_iff_eq, List.cons.injEq, and_true] at hc); (first | (exfalso; omega) | exact absurd True.intro hc | conv => whnf))) | ((with_reducible refine And.intro True.intro ?_); conv => whnf) | ((with_reducible refine grd_and ?_); refine And.intro (hm) ?_; conv => whnf) | ((with_reducible refine grd_and ?_); refine And.intro (y2) ?_; conv => whnf) | ((with_reducible refine grd_and ?_); refine And.intro (y1) ?_; conv => whnf) | ((with_reducible refine grd_and ?_); refine And.intro (y3) ?_; conv => whnf) | ((with_reducible refine And.intro ?hh ?_); (case hh => exact condA); conv => whnf) | fail))
            all_goals first | (exfalso; omega) | skip
            refine WpR.loopA (ι := Nat × Int) [] [0, 1, 6, 7, 10, 12] [] [] 0 (fun p => [(13, .int .i64 p.1), (11, .int .i64 p.2)]) (fun _ => []) (fun p => m - p.1) (fun p => p.1 ≤ m ∧ p.2 = sgn k m p.1 * (y k * tmP x d k (m + 1) * (trP (gq x k n) m * rwP (gq x k n) m p.1))) ?_ ((0, te * ((d : Int) - x m))) (⟨Nat.zero_le _, hz⟩) [] Back.auto
            rintro ⟨b, tf⟩ ⟨i1, i2⟩
            dsimp only at i1 i2
            refine WpR.of_vc ?_
            by_cases hb : b < m
            · have hbn : b < n := by omega
              have hrb := hrg b hbn
              by_cases hbk : b = k
              · have q1 := hsk b hb hbk tf i2
                have hbk2 : (b : Int) = k := by omega
                (conv => whnf); (repeat' (first | ((with_reducible refine ifb_mk (fun hc => ?_) (fun hc => ?_)) <;> ((try simp only [d9a, d9b, Bool.not_eq_true', Bool.not_eq_false', Int.not_lt, Int.not_le, ne_eq, d9c, beq_iff_eq, List.cons.injEq, and_true] at hc); (first | (exfalso; omega) | exact absurd True.intro hc | conv => whnf))) | ((with_reducible refine And.intro True.intro ?_); conv => whnf) | ((with_reducible refine grd_and ?_); refine And.intro (hb) ?_; conv => whnf) | ((with_reducible refine And.intro ?hh ?_); (case hh => exact condA); conv => whnf) | fail))
                all_goals first | (exfalso; omega) | exact ⟨(b + 1, tf), [], by dsimp only; omega, ⟨by dsimp only; omega, q1⟩, Back.auto⟩
              · have q1 := hst b hb hbk tf i2
                have q2 := hbd (b + 1) (by omega)
                have z1 : InR (tf * (x m - x b)) := by rw [q1]; unfold InR; omega
                have z2 : InR (x m - x b) := by unfold InR; omega
                have hbk2 : (b : Int) ≠ k := by omega
                (conv => whnf); (repeat' (first | ((with_reducible refine ifb_mk (fun hc => ?_) (fun hc => ?_)) <;> ((try simp only [d9a, d9b, Bool.not_eq_true', Bool.not_eq_false', Int.not_lt, Int.not_le, ne_eq, d9c, beq_iff_eq, List.cons.injEq, and_true] at hc); (first | (exfalso; omega) | exact absurd True.intro hc | conv => whnf))) | ((with_reducible refine And.intro True.intro ?_); conv => whnf) | ((with_reducible refine grd_and ?_); refine And.intro (hb) ?_; conv => whnf) | ((with_reducible refine grd_and ?_); refine And.intro (hm) ?_; conv => whnf) | ((with_reducible refine grd_and ?_); refine And.intro (hbn) ?_; conv => whnf) | ((with_reducible refine grd_and ?_); refine And.intro (z2) ?_; conv => whnf) | ((with_reducible refine grd_and ?_); refine And.intro (z1) ?_; conv => whnf) | ((with_reducible refine WpR.draw (id := 8) mixed [0, 1, 2, 3, 4, 5, 6, 7, 8, 9, 10, 11, 12, 13] [0, 0, 0, 6, 14, 30, 0, 0, 192, 448, 960, 2046, 4095, 8191] ?hh ?_); (case hh => kernel_rfl); conv => whnf) | ((with_reducible refine WpR.draw (id := 24) mixed [0, 1, 2, 3, 4, 5, 6, 7, 8, 9, 10, 11, 12, 13] [0, 0, 0, 6, 14, 30, 0, 0, 192, 448, 960, 2046, 4095, 8191] ?hh ?_); (case hh => kernel_rfl); conv => whnf) | ((with_reducible refine WpR.draw (id := 26) mixed [0, 1, 2, 3, 4, 5, 6, 7, 8] [0, 0, 3, 0, 0, 24, 56, 7, 255] ?hh ?_); (case hh => kernel_rfl); conv => whnf) | ((with_reducible refine And.intro ?hh ?_); (case hh => exact condA); conv => whnf) | fail))
                all_goals first | (exfalso; omega) | exact ⟨(b + 1, tf * (x m - x b)), [], by dsimp only; omega, ⟨by dsimp only; omega, q1⟩, Back.auto⟩
            · have e : b = m := by omega
              subst e
              have q1 := hfin tf i2
              (conv => whnf); (repeat' (first | ((with_reducible refine ifb_mk (fun hc => ?_) (fun hc => ?_)) <;> ((try simp only [d9a, d9b, Bool.not_eq_true', Bool.not_eq_false', Int.not_lt, Int.not_le, ne_eq, d9c, beq_iff_eq, List.cons.injEq, and_true] at hc); (first | (exfalso; omega) | exact absurd True.intro hc | conv => whnf))) | ((with_reducible refine And.intro True.intro ?_); conv => whnf) | ((with_reducible refine grd_and ?_); refine And.intro (hb) ?_; conv => whnf) | ((with_reducible refine And.intro ?hh ?_); (case hh => exact condA); conv => whnf) | fail))
              all_goals first | (exfalso; omega) | exact ⟨(b + 1, tf), [], by dsimp only; omega, ⟨by dsimp only; omega, q1⟩, Back.auto⟩
      · have e : m = n := by omega
        subst e
        have b1 := te_bd hD hy hd' hk
        have b2 := nu_bd hD hy hd' k (by omega)
        have e1 : nm + te = nuP m x y d (k + 1) := by rw [k2, l2]; rfl
        have y2 : InR (nm + te) := by rw [l2, k2]; unfold InR; omega
        (conv => whnf); (repeat' (first | ((with_reducible refine ifb_mk (fun hc => ?_) (fun hc => ?_)) <;> ((try simp only [d9a, d9b, Bool.not_eq_true', Bool.not_eq_false', Int.not_lt, Int.not_le, ne_eq, d9c, beq_iff_eq, List.cons.injEq, and_true] at hc); (first | (exfalso; omega) | exact absurd True.intro hc | conv => whnf))) | ((with_reducible refine And.intro True.intro ?_); conv => whnf) | ((with_reducible refine grd_and ?_); refine And.intro (hm) ?_; conv => whnf) | ((with_reducible refine grd_and ?_); refine And.intro (y2) ?_; conv => whnf) | ((with_reducible refine And.intro ?hh ?_); (case hh => exact condA); conv => whnf) | fail))
        all_goals first | (exfalso; omega) | exact ⟨(k + 1, nm + te), [], by dsimp only; omega, ⟨by dsimp only; omega, e1⟩, Back.auto⟩
    · have e : k = n := by omega
      rw [e] at k2
      rw [← k2] at hqb ⊢
      have z0 : dn ≠ 0 := by omega
      have z1 := tmod_bd (a := nm) ⟨hdp, hdl⟩
      have z2 : InR (nm.tdiv dn) := by unfold InR; omega
      (conv => whnf); (repeat' (first | ((with_reducible refine ifb_mk (fun hc => ?_) (fun hc => ?_)) <;> ((try simp only [d9a, d9b, Bool.not_eq_true', Bool.not_eq_false', Int.not_lt, Int.not_le, ne_eq, d9c, beq_iff_eq, List.cons.injEq, and_true] at hc); (first | (exfalso; omega) | exact absurd True.intro hc | conv => whnf))) | ((with_reducible refine And.intro True.intro ?_); conv => whnf) | ((with_reducible refine grd_and ?_); refine And.intro (hk) ?_; conv => whnf) | ((with_reducible refine grd_and ?_); refine And.intro (z0) ?_; conv => whnf) | ((with_reducible refine grd_and ?_); refine And.intro (z1) ?_; conv => whnf) | ((with_reducible refine grd_and ?_); refine And.intro (z2) ?_; conv => whnf) | ((with_reducible refine WpR.draw (id := 8) mixed [0, 1, 2, 3, 4, 5, 6, 7, 8, 9, 10, 11, 12, 13] [0, 0, 0, 6, 14, 30, 0, 0, 192, 448, 960, 2046, 4095, 8191] ?hh ?_); (case hh => kernel_rfl); conv => whnf) | ((with_reducible refine WpR.draw (id := 24) mixed [0, 1, 2, 3, 4, 5, 6, 7, 8, 9, 10, 11, 12, 13] [0, 0, 0, 6, 14, 30, 0, 0, 192, 448, 960, 2046, 4095, 8191] ?hh ?_); (case hh => kernel_rfl); conv => whnf) | ((with_reducible refine WpR.draw (id := 26) mixed [0, 1, 2, 3, 4, 5, 6, 7, 8] [0, 0, 3, 0, 0, 24, 56, 7, 255] ?hh ?_); (case hh => kernel_rfl); conv => whnf) | ((with_reducible refine And.intro ?hh ?_); (case hh => exact condA); conv => whnf) | fail))
      all_goals first | (exfalso; omega) | (refine ⟨[], ?_, rfl, rfl, trivial, trivs⟩; simp only [renV, renL]; (first | done | rfl | (simp; done) | (simp; omega) | grind))
end Go.Proofs.K
namespace Go.Proofs.K
open Go.As
set_option maxRecDepth 20000
set_option maxHeartbeats 16000000 in
theorem passY1 (h : As.H) (ex : Bool) (x y : Nat → Int) (hD : Dy 1 x) (hy : Pl 1 y) (hw : alW 1 x y = true) :
    CallOk Try.prog 64 [.rsl ex 2 1 (lkG x y)] h (.tup [.sl (h.n + 0) 0 1 1 false, .bool true]) (addBs h [paB 1 fun k => dif (qP 1 x y) k 0]) := by
  have k0 : ∀ h' : As.H, CallOk Try.prog 82 [.rsl ex 2 1 (lkG x y), .int .i64 0] h' (.tup [.int .i64 (qP 1 x y 0), .bool (whP 1 x y 0)]) h' := fun h' => placeR_ok h' ex 1 x y 0 hD hy (by omega)
  have b0 := qP_bd hD hy (d := 0) (by omega)
  rw [allF_iff.1 hw 0 (by omega)] at k0
  generalize qP 1 x y = Q at *
  clear hw
  refine CallOk.runN Try.func64 rfl rfl (argsC := [.rsl ex 2 1 (lkG x y)]) (fun N => .tup [.sl (N + 0) 0 1 1 false, .bool true]) (fun _ => [paB 1 fun k => dif Q k 0]) (Nat.le_of_ble_eq_true rfl) [] (.cons (.lt0 rfl) .nil) (viewM0 h) (ShV.tup (.cons (.sl (i := 0) (Nat.le_of_ble_eq_true rfl) rfl rfl) (.cons (.bare rfl) .nil))) rfl (fun i b hi => ?_) (WpR.of_vc ?_)
  · match i, hi with
    | 0, hi => cases hi; exact ⟨_, rfl, rfl, .bare (ofL_bare (arrV_bare fun _ => rfl))⟩
    | i + 1, hi => simp at hi
  · (conv => whnf); (repeat' (first | ((with_reducible refine ifb_mk (fun hc => ?_) (fun hc => ?_)) <;> ((try simp only [d9a, d9b, Bool.not_eq_true', Bool.not_eq_false', Int.not_lt, Int.not_le, ne_eq, d9c, beq_iff_eq, List.cons.injEq, and_true] at hc); (first | (exfalso; omega) | exact absurd True.intro hc | conv => whnf))) | ((with_reducible refine And.intro True.intro ?_); conv => whnf) | ((with_reducible refine CallX.all ?_); refine CallW.of_ok (k0 _) ?_; conv => whnf) | ((with_reducible refine WpR.loopU 5 ?_); conv => whnf) | ((with_reducible refine CallX.all (f := 78) ?_); refine CallW.inline Try.func78 rfl rfl (Nat.le_of_ble_eq_true rfl) (WpR.of_vc ?_); conv => whnf) | (refine AppX.nil (n := 1) Nat.zero_lt_one (Nat.le_of_ble_eq_true rfl) ?_; conv => whnf) | (refine AppX.own (n := 1) rfl rfl rfl Nat.zero_lt_one (Nat.le_of_ble_eq_true rfl) ?_; conv => whnf) | ((with_reducible refine WpR.draw (id := 8) mixed [0, 1, 2, 3, 4, 5, 6, 7, 8, 9, 10, 11, 12, 13] [0, 0, 0, 6, 14, 0, 0, 64, 224, 480, 1022, 2046, 4095, 8191] ?hh ?_); (case hh => kernel_rfl); conv => whnf) | ((with_reducible refine And.intro ?hh ?_); (case hh => exact condA); conv => whnf) | fail))
    all_goals first | (exfalso; omega) | exact ⟨[_], rfl, rfl, rfl, ⟨⟨_, rfl, rfl, SubQ.fin (by (conv => whnf); (repeat' (first | exact True.intro | rfl | refine And.intro ?_ ?_)); done) (fun h => h) (.inl rfl)⟩, paB_lt, rfl, trivial⟩, trivs⟩
set_option maxHeartbeats 16000000 in
theorem passN1 (h : As.H) (ex : Bool) (x y : Nat → Int) (hD : Dy 1 x) (hy : Pl 1 y) (hw : alW 1 x y = false) :
    CallOk Try.prog 64 [.rsl ex 2 1 (lkG x y)] h (.tup [.nils, .bool false]) h := by
  have k0 : ∀ h' : As.H, CallOk Try.prog 82 [.rsl ex 2 1 (lkG x y), .int .i64 0] h' (.tup [.int .i64 (qP 1 x y 0), .bool (whP 1 x y 0)]) h' := fun h' => placeR_ok h' ex 1 x y 0 hD hy (by omega)
  have b0 := qP_bd hD hy (d := 0) (by omega)
  have hw2 : ∃ d, d < 1 ∧ whP 1 x y d = false := by
    apply Classical.byContradiction
    intro hc
    have : alW 1 x y = true := allF_t fun i hi => by
      cases e : whP 1 x y i with
      | true => rfl
      | false => exact absurd ⟨i, hi, e⟩ hc
    rw [hw] at this; cases this
  generalize qP 1 x y = Q at *
  generalize whP 1 x y = W at *
  clear hw
  cases e0 : W 0 with
  | false =>
    rw [e0] at k0
    refine CallOk.run0 Try.func64 rfl rfl rfl rfl rfl (WpR.of_vc ?_)
    (conv => whnf); (repeat' (first | ((with_reducible refine ifb_mk (fun hc => ?_) (fun hc => ?_)) <;> ((try simp only [d9a, d9b, Bool.not_eq_true', Bool.not_eq_false', Int.not_lt, Int.not_le, ne_eq, d9c, beq_iff_eq, List.cons.injEq, and_true] at hc); (first | (exfalso; omega) | exact absurd True.intro hc | conv => whnf))) | ((with_reducible refine And.intro True.intro ?_); conv => whnf) | ((with_reducible refine CallX.all ?_); refine CallW.of_ok (k0 _) ?_; conv => whnf) | ((with_reducible refine WpR.loopU 5 ?_); conv => whnf) | (refine AppX.nil (n := 1) Nat.zero_lt_one (Nat.le_of_ble_eq_true rfl) ?_; conv => whnf) | (refine AppX.own (n := 1) rfl rfl rfl Nat.zero_lt_one (Nat.le_of_ble_eq_true rfl) ?_; conv => whnf) | ((with_reducible refine And.intro ?hh ?_); (case hh => exact condA); conv => whnf) | fail))
    all_goals first | (exfalso; omega) | (refine ⟨[], ?_, rfl, rfl, trivial, trivs⟩; simp only [renV, renL]; (first | done | rfl | (simp; done) | (simp; omega) | grind))
  | true =>
  rw [e0] at k0
  exfalso
  obtain ⟨d, h1, h2⟩ := hw2
  match d, h1 with
  | 0, _ => rw [e0] at h2; cases h2
set_option maxHeartbeats 16000000 in
theorem passY2 (h : As.H) (ex : Bool) (x y : Nat → Int) (hD : Dy 2 x) (hy : Pl 2 y) (hw : alW 2 x y = true) :
    CallOk Try.prog 64 [.rsl ex 2 2 (lkG x y)] h (.tup [.sl (h.n + 0) 0 2 2 false, .bool true]) (addBs h [paB 2 fun k => dif (qP 2 x y) k 0]) := by
  have k0 : ∀ h' : As.H, CallOk Try.prog 82 [.rsl ex 2 2 (lkG x y), .int .i64 0] h' (.tup [.int .i64 (qP 2 x y 0), .bool (whP 2 x y 0)]) h' := fun h' => placeR_ok h' ex 2 x y 0 hD hy (by omega)
  have b0 := qP_bd hD hy (d := 0) (by omega)
  have k1 : ∀ h' : As.H, CallOk Try.prog 82 [.rsl ex 2 2 (lkG x y), .int .i64 1] h' (.tup [.int .i64 (qP 2 x y 1), .bool (whP 2 x y 1)]) h' := fun h' => placeR_ok h' ex 2 x y 1 hD hy (by omega)
  have b1 := qP_bd hD hy (d := 1) (by omega)
  rw [allF_iff.1 hw 0 (by omega)] at k0
  rw [allF_iff.1 hw 1 (by omega)] at k1
  generalize qP 2 x y = Q at *
  clear hw
  refine CallOk.runN Try.func64 rfl rfl (argsC := [.rsl ex 2 2 (lkG x y)]) (fun N => .tup [.sl (N + 0) 0 2 2 false, .bool true]) (fun _ => [paB 2 fun k => dif Q k 0]) (Nat.le_of_ble_eq_true rfl) [] (.cons (.lt0 rfl) .nil) (viewM0 h) (ShV.tup (.cons (.sl (i := 0) (Nat.le_of_ble_eq_true rfl) rfl rfl) (.cons (.bare rfl) .nil))) rfl (fun i b hi => ?_) (WpR.of_vc ?_)
  · match i, hi with
    | 0, hi => cases hi; exact ⟨_, rfl, rfl, .bare (ofL_bare (arrV_bare fun _ => rfl))⟩
    | i + 1, hi => simp at hi
  · (conv => whnf); (repeat' (first | ((with_reducible refine ifb_mk (fun hc => ?_) (fun hc => ?_)) <;> ((try simp only [d9a, d9b, Bool.not_eq_true', Bool.not_eq_false', Int.not_lt, Int.not_le, ne_eq, d9c, beq_iff_eq, List.cons.injEq, and_true] at hc); (first | (exfalso; omega) | exact absurd True.intro hc | conv => whnf))) | ((with_reducible refine And.intro True.intro ?_); conv => whnf) | ((with_reducible refine CallX.all ?_); refine CallW.of_ok (k0 _) ?_; conv => whnf) | ((with_reducible refine CallX.all ?_); refine CallW.of_ok (k1 _) ?_; conv => whnf) | ((with_reducible refine WpR.loopU 5 ?_); conv => whnf) | ((with_reducible refine CallX.all (f := 78) ?_); refine CallW.inline Try.func78 rfl rfl (Nat.le_of_ble_eq_true rfl) (WpR.of_vc ?_); conv => whnf) | (refine AppX.nil (n := 1) Nat.zero_lt_one (Nat.le_of_ble_eq_true rfl) ?_; conv => whnf) | (refine AppX.own (n := 1) rfl rfl rfl Nat.zero_lt_one (Nat.le_of_ble_eq_true rfl) ?_; conv => whnf) | ((with_reducible refine WpR.draw (id := 8) mixed [0, 1, 2, 3, 4, 5, 6, 7, 8, 9, 10, 11, 12, 13] [0, 0, 0, 6, 14, 0, 0, 64, 224, 480, 1022, 2046, 4095, 8191] ?hh ?_); (case hh => kernel_rfl); conv => whnf) | ((with_reducible refine And.intro ?hh ?_); (case hh => exact condA); conv => whnf) | fail))
    all_goals first | (exfalso; omega) | exact ⟨[_], rfl, rfl, rfl, ⟨⟨_, rfl, rfl, SubQ.fin (by (conv => whnf); (repeat' (first | exact True.intro | rfl | refine And.intro ?_ ?_)); done) (fun h => h) (.inl rfl)⟩, paB_lt, rfl, trivial⟩, trivs⟩
set_option maxHeartbeats 16000000 in
theorem passN2 (h : As.H) (ex : Bool) (x y : Nat → Int) (hD : Dy 2 x) (hy : Pl 2 y) (hw : alW 2 x y = false) :
    CallOk Try.prog 64 [.rsl ex 2 2 (lkG x y)] h (.tup [.nils, .bool false]) h := by
  have k0 : ∀ h' : As.H, CallOk Try.prog 82 [.rsl ex 2 2 (lkG x y), .int .i64 0] h' (.tup [.int .i64 (qP 2 x y 0), .bool (whP 2 x y 0)]) h' := fun h' => placeR_ok h' ex 2 x y 0 hD hy (by omega)
  have b0 := qP_bd hD hy (d := 0) (by omega)
  have k1 : ∀ h' : As.H, CallOk Try.prog 82 [.rsl ex 2 2 (lkG x y), .int .i64 1] h' (.tup [.int .i64 (qP 2 x y 1), .bool (whP 2 x y 1)]) h' := fun h' => placeR_ok h' ex 2 x y 1 hD hy (by omega)
  have b1 := qP_bd hD hy (d := 1) (by omega)
  have hw2 : ∃ d, d < 2 ∧ whP 2 x y d = false := by
    apply Classical.byContradiction
    intro hc
    have : alW 2 x y = true := allF_t fun i hi => by
      cases e : whP 2 x y i with
      | true => rfl
      | false => exact absurd ⟨i, hi, e⟩ hc
    rw [hw] at this; cases this
  generalize qP 2 x y = Q at *
  generalize whP 2 x y = W at *
  clear hw
  cases e0 : W 0 with
  | false =>
    rw [e0] at k0
    refine CallOk.run0 Try.func64 rfl rfl rfl rfl rfl (WpR.of_vc ?_)
    (conv => whnf); (repeat' (first | ((with_reducible refine ifb_mk (fun hc => ?_) (fun hc => ?_)) <;> ((try simp only [d9a, d9b, Bool.not_eq_true', Bool.not_eq_false', Int.not_lt, Int.not_le, ne_eq, d9c, beq_iff_eq, List.cons.injEq, and_true] at hc); (first | (exfalso; omega) | exact absurd True.intro hc | conv => whnf))) | ((with_reducible refine And.intro True.intro ?_); conv => whnf) | ((with_reducible refine CallX.all ?_); refine CallW.of_ok (k0 _) ?_; conv => whnf) | ((with_reducible refine WpR.loopU 5 ?_); conv => whnf) | (refine AppX.nil (n := 1) Nat.zero_lt_one (Nat.le_of_ble_eq_true rfl) ?_; conv => whnf) | (refine AppX.own (n := 1) rfl rfl rfl Nat.zero_lt_one (Nat.le_of_ble_eq_true rfl) ?_; conv => whnf) | ((with_reducible refine And.intro ?hh ?_); (case hh => exact condA); conv => whnf) | fail))
    all_goals first | (exfalso; omega) | (refine ⟨[], ?_, rfl, rfl, trivial, trivs⟩; simp only [renV, renL]; (first | done | rfl | (simp; done) | (simp; omega) | grind))
  | true =>
  rw [e0] at k0
  cases e1 : W 1 with
  | false =>
    rw [e1] at k1
    refine CallOk.run0 Try.func64 rfl rfl rfl rfl rfl (WpR.of_vc ?_)
    (conv => whnf); (repeat' (first | ((with_reducible refine ifb_mk (fun hc => ?_) (fun hc => ?_)) <;> ((try simp only [d9a, d9b, Bool.not_eq_true', Bool.not_eq_false', Int.not_lt, Int.not_le, ne_eq, d9c, beq_iff_eq, List.cons.injEq, and_true] at hc); (first | (exfalso; omega) | exact absurd True.intro hc | conv => whnf))) | ((with_reducible refine And.intro True.intro ?_); conv => whnf) | ((with_reducible refine CallX.all ?_); refine CallW.of_ok (k0 _) ?_; conv => whnf) | ((with_reducible refine CallX.all ?_); refine CallW.of_ok (k1 _) ?_; conv => whnf) | ((with_reducible refine WpR.loopU 5 ?_); conv => whnf) | (refine AppX.nil (n := 1) Nat.zero_lt_one (Nat.le_of_ble_eq_true rfl) ?_; conv => whnf) | (refine AppX.own (n := 1) rfl rfl rfl Nat.zero_lt_one (Nat.le_of_ble_eq_true rfl) ?_; conv => whnf) | ((with_reducible refine And.intro ?hh ?_); (case hh => exact condA); conv => whnf) | fail))
    all_goals first | (exfalso; omega) | (refine ⟨[], ?_, rfl, rfl, trivial, trivs⟩; simp only [renV, renL]; (first | done | rfl | (simp; done) | (simp; omega) | grind))
  | true =>
  rw [e1] at k1
  exfalso
  obtain ⟨d, h1, h2⟩ := hw2
  match d, h1 with
  | 0, _ => rw [e0] at h2; cases h2
  | 1, _ => rw [e1] at h2; cases h2
set_option maxHeartbeats 16000000 in
theorem passY3 (h : As.H) (ex : Bool) (x y : Nat → Int) (hD : Dy 3 x) (hy : Pl 3 y) (hw : alW 3 x y = true) :
    CallOk Try.prog 64 [.rsl ex 2 3 (lkG x y)] h (.tup [.sl (h.n + 0) 0 3 3 false, .bool true]) (addBs h [paB 3 fun k => dif (qP 3 x y) k 0]) := by
  have k0 : ∀ h' : As.H, CallOk Try.prog 82 [.rsl ex 2 3 (lkG x y), .int .i64 0] h' (.tup [.int .i64 (qP 3 x y 0), .bool (whP 3 x y 0)]) h' := fun h' => placeR_ok h' ex 3 x y 0 hD hy (by omega)
  have b0 := qP_bd hD hy (d := 0) (by omega)
  have k1 : ∀ h' : As.H, CallOk Try.prog 82 [.rsl ex 2 3 (lkG x y), .int .i64 1] h' (.tup [.int .i64 (qP 3 x y 1), .bool (whP 3 x y 1)]) h' := fun h' => placeR_ok h' ex 3 x y 1 hD hy (by omega)
  have b1 := qP_bd hD hy (d := 1) (by omega)
  have k2 : ∀ h' : As.H, CallOk Try.prog 82 [.rsl ex 2 3 (lkG x y), .int .i64 2] h' (.tup [.int .i64 (qP 3 x y 2), .bool (whP 3 x y 2)]) h' := fun h' => placeR_ok h' ex 3 x y 2 hD hy (by omega)
  have b2 := qP_bd hD hy (d := 2) (by omega)
  rw [allF_iff.1 hw 0 (by omega)] at k0
  rw [allF_iff.1 hw 1 (by omega)] at k1
  rw [allF_iff.1 hw 2 (by omega)] at k2
  generalize qP 3 x y = Q at *
  clear hw
  refine CallOk.runN Try.func64 rfl rfl (argsC := [.rsl ex 2 3 (lkG x y)]) (fun N => .tup [.sl (N + 0) 0 3 3 false, .bool true]) (fun _ => [paB 3 fun k => dif Q k 0]) (Nat.le_of_ble_eq_true rfl) [] (.cons (.lt0 rfl) .nil) (viewM0 h) (ShV.tup (.cons (.sl (i := 0) (Nat.le_of_ble_eq_true rfl) rfl rfl) (.cons (.bare rfl) .nil))) rfl (fun i b hi => ?_) (WpR.of_vc ?_)
  · match i, hi with
    | 0, hi => cases hi; exact ⟨_, rfl, rfl, .bare (ofL_bare (arrV_bare fun _ => rfl))⟩
    | i + 1, hi => simp at hi
  · (conv => whnf); (repeat' (first | ((with_reducible refine ifb_mk (fun hc => ?_) (fun hc => ?_)) <;> ((try simp only [d9a, d9b, Bool.not_eq_true', Bool.not_eq_false', Int.not_lt, Int.not_le, ne_eq, d9c, beq_iff_eq, List.cons.injEq, and_true] at hc); (first | (exfalso; omega) | exact absurd True.intro hc | conv => whnf))) | ((with_reducible refine And.intro True.intro ?_); conv => whnf) | ((with_reducible refine CallX.all ?_); refine CallW.of_ok (k0 _) ?_; conv => whnf) | ((with_reducible refine CallX.all ?_); refine CallW.of_ok (k1 _) ?_; conv => whnf) | ((with_reducible refine CallX.all ?_); refine CallW.of_ok (k2 _) ?_; conv => whnf) | ((with_reducible refine WpR.loopU 5 ?_); conv => whnf) | ((with_reducible refine CallX.all (f := 78) ?_); refine CallW.inline Try.func78 rfl rfl (Nat.le_of_ble_eq_true rfl) (WpR.of_vc ?_); conv => whnf) | (refine AppX.nil (n := 1) Nat.zero_lt_one (Nat.le_of_ble_eq_true rfl) ?_; conv => whnf) | (refine AppX.own (n := 1) rfl rfl rfl Nat.zero_lt_one (Nat.le_of_ble_eq_true rfl) ?_; conv => whnf) | ((with_reducible refine WpR.draw (id := 8) mixed [0, 1, 2, 3, 4, 5, 6, 7, 8, 9, 10, 11, 12, 13] [0, 0, 0, 6, 14, 0, 0, 64, 224, 480, 1022, 2046, 4095, 8191] ?hh ?_); (case hh => kernel_rfl); conv => whnf) | ((with_reducible refine And.intro ?hh ?_); (case hh => exact condA); conv => whnf) | fail))
    all_goals first | (exfalso; omega) | exact ⟨[_], rfl, rfl, rfl, ⟨⟨_, rfl, rfl, SubQ.fin (by (conv => whnf); (repeat' (first | exact True.intro | rfl | refine And.intro ?_ ?_)); done) (fun h => h) (.inl rfl)⟩, paB_lt, rfl, trivial⟩, trivs⟩
set_option maxHeartbeats 16000000 in
theorem passN3 (h : As.H) (ex : Bool) (x y : Nat → Int) (hD : Dy 3 x) (hy : Pl 3 y) (hw : alW 3 x y = false) :
    CallOk Try.prog 64 [.rsl ex 2 3 (lkG x y)] h (.tup [.nils, .bool false]) h := by
  have k0 : ∀ h' : As.H, CallOk Try.prog 82 [.rsl ex 2 3 (lkG x y), .int .i64 0] h' (.tup [.int .i64 (qP 3 x y 0), .bool (whP 3 x y 0)]) h' := fun h' => placeR_ok h' ex 3 x y 0 hD hy (by omega)
  have b0 := qP_bd hD hy (d := 0) (by omega)
  have k1 : ∀ h' : As.H, CallOk Try.prog 82 [.rsl ex 2 3 (lkG x y), .int .i64 1] h' (.tup [.int .i64 (qP 3 x y 1), .bool (whP 3 x y 1)]) h' := fun h' => placeR_ok h' ex 3 x y 1 hD hy (by omega)
  have b1 := qP_bd hD hy (d := 1) (by omega)
  have k2 : ∀ h' : As.H, CallOk Try.prog 82 [.rsl ex 2 3 (lkG x y), .int .i64 2] h' (.tup [.int .i64 (qP 3 x y 2), .bool (whP 3 x y 2)]) h' := fun h' => placeR_ok h' ex 3 x y 2 hD hy (by omega)
  have b2 := qP_bd hD hy (d := 2) (by omega)
  have hw2 : ∃ d, d < 3 ∧ whP 3 x y d = false := by
    apply Classical.byContradiction
    intro hc
    have : alW 3 x y = true := allF_t fun i hi => by
      cases e : whP 3 x y i with
      | true => rfl
      | false => exact absurd ⟨i, hi, e⟩ hc
    rw [hw] at this; cases this
  generalize qP 3 x y = Q at *
  generalize whP 3 x y = W at *
  clear hw
  cases e0 : W 0 with
  | false =>
    rw [e0] at k0
    refine CallOk.run0 Try.func64 rfl rfl rfl rfl rfl (WpR.of_vc ?_)
    (conv => whnf); (repeat' (first | ((with_reducible refine ifb_mk (fun hc => ?_) (fun hc => ?_)) <;> ((try simp only [d9a, d9b, Bool.not_eq_true', Bool.not_eq_false', Int.not_lt, Int.not_le, ne_eq, d9c, beq_iff_eq, List.cons.injEq, and_true] at hc); (first | (exfalso; omega) | exact absurd True.intro hc | conv => whnf))) | ((with_reducible refine And.intro True.intro ?_); conv => whnf) | ((with_reducible refine CallX.all ?_); refine CallW.of_ok (k0 _) ?_; conv => whnf) | ((with_reducible refine WpR.loopU 5 ?_); conv => whnf) | (refine AppX.nil (n := 1) Nat.zero_lt_one (Nat.le_of_ble_eq_true rfl) ?_; conv => whnf) | (refine AppX.own (n := 1) rfl rfl rfl Nat.zero_lt_one (Nat.le_of_ble_eq_true rfl) ?_; conv => whnf) | ((with_reducible refine And.intro ?hh ?_); (case hh => exact condA); conv => whnf) | fail))
    all_goals first | (exfalso; omega) | (refine ⟨[], ?_, rfl, rfl, trivial, trivs⟩; simp only [renV, renL]; (first | done | rfl | (simp; done) | (simp; omega) | grind))
  | true =>
  rw [e0] at k0
  cases e1 : W 1 with
  | false =>
    rw [e1] at k1
    refine CallOk.run0 Try.func64 rfl rfl rfl rfl rfl (WpR.of_vc ?_)
    (conv => whnf); (repeat' (first | ((with_reducible refine ifb_mk (fun hc => ?_) (fun hc => ?_)) <;> ((try simp only [d9a, d9b, Bool.not_eq_true', Bool.not_eq_false', Int.not_lt, Int.not_le, ne_eq, d9c, beq_iff_eq, List.cons.injEq, and_true] at hc); (first | (exfalso; omega) | exact absurd True.intro hc | conv => whnf))) | ((with_reducible refine And.intro True.intro ?_); conv => whnf) | ((with_reducible refine CallX.all ?_); refine CallW.of_ok (k0 _) ?_; conv => whnf) | ((with_reducible refine CallX.all ?_); refine CallW.of_ok (k1 _) ?_; conv => whnf) | ((with_reducible refine WpR.loopU 5 ?_); conv => whnf) | (refine AppX.nil (n := 1) Nat.zero_lt_one (Nat.le_of_ble_eq_true rfl) ?_; conv => whnf) | (refine AppX.own (n := 1) rfl rfl rfl Nat.zero_lt_one (Nat.le_of_ble_eq_true rfl) ?_; conv => whnf) | ((with_reducible refine And.intro ?hh ?_); (case hh => exact condA); conv => whnf) | fail))
    all_goals first | (exfalso; omega) | (refine ⟨[], ?_, rfl, rfl, trivial, trivs⟩; simp only [renV, renL]; (first | done | rfl | (simp; done) | (simp; omega) | grind))
  | true =>
  rw [e1] at k1
  cases e2 : W 2 with
  | false =>
    rw [e2] at k2
    refine CallOk.run0 Try.func64 rfl rfl rfl rfl rfl (WpR.of_vc ?_)
    (conv => whnf); (repeat' (first | ((with_reducible refine ifb_mk (fun hc => ?_) (fun hc => ?_)) <;> ((try simp only [d9a, d9b, Bool.not_eq_true', Bool.not_eq_false', Int.not_lt, Int.not_le, ne_eq, d9c, beq_iff_eq, List.cons.injEq, and_true] at hc); (first | (exfalso; omega) | exact absurd True.intro hc | conv => whnf))) | ((with_reducible refine And.intro True.intro ?_); conv => whnf) | ((with_reducible refine CallX.all ?_); refine CallW.of_ok (k0 _) ?_; conv => whnf) | ((with_reducible refine CallX.all ?_); refine CallW.of_ok (k1 _) ?_; conv => whnf) | ((with_reducible refine CallX.all ?_); refine CallW.of_ok (k2 _) ?_; conv => whnf) | ((with_reducible refine WpR.loopU 5 ?_); conv => whnf) | (refine AppX.nil (n := 1) Nat.zero_lt_one (Nat.le_of_ble_eq_true rfl) ?_; conv => whnf) | (refine AppX.own (n := 1) rfl rfl rfl Nat.zero_lt_one (Nat.le_of_ble_eq_true rfl) ?_; conv => whnf) | ((with_reducible refine And.intro ?hh ?_); (case hh => exact condA); conv => whnf) | fail))
    all_goals first | (exfalso; omega) | (refine ⟨[], ?_, rfl, rfl, trivial, trivs⟩; simp only [renV, renL]; (first | done | rfl | (simp; done) | (simp; omega) | grind))
  | true =>
  rw [e2] at k2
  exfalso
  obtain ⟨d, h1, h2⟩ := hw2
  match d, h1 with
  | 0, _ => rw [e0] at h2; cases h2
  | 1, _ => rw [e1] at h2; cases h2
  | 2, _ => rw [e2] at h2; cases h2
set_option maxHeartbeats 16000000 in
theorem passY4 (h : As.H) (ex : Bool) (x y : Nat → Int) (hD : Dy 4 x) (hy : Pl 4 y) (hw : alW 4 x y = true) :
    CallOk Try.prog 64 [.rsl ex 2 4 (lkG x y)] h (.tup [.sl (h.n + 0) 0 4 4 false, .bool true]) (addBs h [paB 4 fun k => dif (qP 4 x y) k 0]) := by
  have k0 : ∀ h' : As.H, CallOk Try.prog 82 [.rsl ex 2 4 (lkG x y), .int .i64 0] h' (.tup [.int .i64 (qP 4 x y 0), .bool (whP 4 x y 0)]) h' := fun h' => placeR_ok h' ex 4 x y 0 hD hy (by omega)
  have b0 := qP_bd hD hy (d := 0) (by omega)
  have k1 : ∀ h' : As.H, CallOk Try.prog 82 [.rsl ex 2 4 (lkG x y), .int .i64 1] h' (.tup [.int .i64 (qP 4 x y 1), .bool (whP 4 x y 1)]) h' := fun h' => placeR_ok h' ex 4 x y 1 hD hy (by omega)
  have b1 := qP_bd hD hy (d := 1) (by omega)
  have k2 : ∀ h' : As.H, CallOk Try.prog 82 [.rsl ex 2 4 (lkG x y), .int .i64 2] h' (.tup [.int .i64 (qP 4 x y 2), .bool (whP 4 x y 2)]) h' := fun h' => placeR_ok h' ex 4 x y 2 hD hy (by omega)
  have b2 := qP_bd hD hy (d := 2) (by omega)
  have k3 : ∀ h' : As.H, CallOk Try.prog 82 [.rsl ex 2 4 (lkG x y), .int .i64 3] h' (.tup [.int .i64 (qP 4 x y 3), .bool (whP 4 x y 3)]) h' := fun h' => placeR_ok h' ex 4 x y 3 hD hy (by omega)
  have b3 := qP_bd hD hy (d := 3) (by omega)
  rw [allF_iff.1 hw 0 (by omega)] at k0
  rw [allF_iff.1 hw 1 (by omega)] at k1
  rw [allF_iff.1 hw 2 (by omega)] at k2
  rw [allF_iff.1 hw 3 (by omega)] at k3
  generalize qP 4 x y = Q at *
  clear hw
  refine CallOk.runN Try.func64 rfl rfl (argsC := [.rsl ex 2 4 (lkG x y)]) (fun N => .tup [.sl (N + 0) 0 4 4 false, .bool true]) (fun _ => [paB 4 fun k => dif Q k 0]) (Nat.le_of_ble_eq_true rfl) [] (.cons (.lt0 rfl) .nil) (viewM0 h) (ShV.tup (.cons (.sl (i := 0) (Nat.le_of_ble_eq_true rfl) rfl rfl) (.cons (.bare rfl) .nil))) rfl (fun i b hi => ?_) (WpR.of_vc ?_)
  · match i, hi with
    | 0, hi => cases hi; exact ⟨_, rfl, rfl, .bare (ofL_bare (arrV_bare fun _ => rfl))⟩
    | i + 1, hi => simp at hi
  · (conv => whnf); (repeat' (first | ((with_reducible refine ifb_mk (fun hc => ?_) (fun hc => ?_)) <;> ((try simp only [d9a, d9b, Bool.not_eq_true', Bool.not_eq_false', Int.not_lt, Int.not_le, ne_eq, d9c, beq_iff_eq, List.cons.injEq, and_true] at hc); (first | (exfalso; omega) | exact absurd True.intro hc | conv => whnf))) | ((with_reducible refine And.intro True.intro ?_); conv => whnf) | ((with_reducible refine CallX.all ?_); refine CallW.of_ok (k0 _) ?_; conv => whnf) | ((with_reducible refine CallX.all ?_); refine CallW.of_ok (k1 _) ?_; conv => whnf) | ((with_reducible refine CallX.all ?_); refine CallW.of_ok (k2 _) ?_; conv => whnf) | ((with_reducible refine CallX.all ?_); refine CallW.of_ok (k3 _) ?_; conv => whnf) | ((with_reducible refine WpR.loopU 5 ?_); conv => whnf) | ((with_reducible refine CallX.all (f := 78) ?_); refine CallW.inline Try.func78 rfl rfl (Nat.le_of_ble_eq_true rfl) (WpR.of_vc ?_); conv => whnf) | (refine AppX.nil (n := 1) Nat.zero_lt_one (Nat.le_of_ble_eq_true rfl) ?_; conv => whnf) | (refine AppX.own (n := 1) rfl rfl rfl Nat.zero_lt_one (Nat.le_of_ble_eq_true rfl) ?_; conv => whnf) | ((with_reducible refine WpR.draw (id := 8) mixed [0, 1, 2, 3, 4, 5, 6, 7, 8, 9, 10, 11, 12, 13] [0, 0, 0, 6, 14, 0, 0, 64, 224, 480, 1022, 2046, 4095, 8191] ?hh ?_); (case hh => kernel_rfl); conv => whnf) | ((with_reducible refine And.intro ?hh ?_); (case hh => exact condA); conv => whnf) | fail))
    all_goals first | (exfalso; omega) | exact ⟨[_], rfl, rfl, rfl, ⟨⟨_, rfl, rfl, SubQ.fin (by (conv => whnf); (repeat' (first | exact True.intro | rfl | refine And.intro ?_ ?_)); done) (fun h => h) (.inl rfl)⟩, paB_lt, rfl, trivial⟩, trivs⟩
set_option maxHeartbeats 16000000 in
theorem passN4 (h : As.H) (ex : Bool) (x y : Nat → Int) (hD : Dy 4 x) (hy : Pl 4 y) (hw : alW 4 x y = false) :
    CallOk Try.prog 64 [.rsl ex 2 4 (lkG x y)] h (.tup [.nils, .bool false]) h := by
  have k0 : ∀ h' : As.H, CallOk Try.prog 82 [.rsl ex 2 4 (lkG x y), .int .i64 0] h' (.tup [.int .i64 (qP 4 x y 0), .bool (whP 4 x y 0)]) h' := fun h' => placeR_ok h' ex 4 x y 0 hD hy (by omega)
  have b0 := qP_bd hD hy (d := 0) (by omega)
  have k1 : ∀ h' : As.H, CallOk Try.prog 82 [.rsl ex 2 4 (lkG x y), .int .i64 1] h' (.tup [.int .i64 (qP 4 x y 1), .bool (whP 4 x y 1)]) h' := fun h' => placeR_ok h' ex 4 x y 1 hD hy (by omega)
  have b1 := qP_bd hD hy (d := 1) (by omega)
  have k2 : ∀ h' : As.H, CallOk Try.prog 82 [.rsl ex 2 4 (lkG x y), .int .i64 2] h' (.tup [.int .i64 (qP 4 x y 2), .bool (whP 4 x y 2)]) h' := fun h' => placeR_ok h' ex 4 x y 2 hD hy (by omega)
  have b2 := qP_bd hD hy (d := 2) (by omega)
  have k3 : ∀ h' : As.H, CallOk Try.prog 82 [.rsl ex 2 4 (lkG x y), .int .i64 3] h' (.tup [.int .i64 (qP 4 x y 3), .bool (whP 4 x y 3)]) h' := fun h' => placeR_ok h' ex 4 x y 3 hD hy (by omega)
  have b3 := qP_bd hD hy (d := 3) (by omega)
  have hw2 : ∃ d, d < 4 ∧ whP 4 x y d = false := by
    apply Classical.byContradiction
    intro hc
    have : alW 4 x y = true := allF_t fun i hi => by
      cases e : whP 4 x y i with
      | true => rfl
      | false => exact absurd ⟨i, hi, e⟩ hc
    rw [hw] at this; cases this
  generalize qP 4 x y = Q at *
  generalize whP 4 x y = W at *
  clear hw
  cases e0 : W 0 with
  | false =>
    rw [e0] at k0
    refine CallOk.run0 Try.func64 rfl rfl rfl rfl rfl (WpR.of_vc ?_)
    (conv => whnf); (repeat' (first | ((with_reducible refine ifb_mk (fun hc => ?_) (fun hc => ?_)) <;> ((try simp only [d9a, d9b, Bool.not_eq_true', Bool.not_eq_false', Int.not_lt, Int.not_le, ne_eq, d9c, beq_iff_eq, List.cons.injEq, and_true] at hc); (first | (exfalso; omega) | exact absurd True.intro hc | conv => whnf))) | ((with_reducible refine And.intro True.intro ?_); conv => whnf) | ((with_reducible refine CallX.all ?_); refine CallW.of_ok (k0 _) ?_; conv => whnf) | ((with_reducible refine WpR.loopU 5 ?_); conv => whnf) | (refine AppX.nil (n := 1) Nat.zero_lt_one (Nat.le_of_ble_eq_true rfl) ?_; conv => whnf) | (refine AppX.own (n := 1) rfl rfl rfl Nat.zero_lt_one (Nat.le_of_ble_eq_true rfl) ?_; conv => whnf) | ((with_reducible refine And.intro ?hh ?_); (case hh => exact condA); conv => whnf) | fail))
    all_goals first | (exfalso; omega) | (refine ⟨[], ?_, rfl, rfl, trivial, trivs⟩; simp only [renV, renL]; (first | done | rfl | (simp; done) | (simp; omega) | grind))
  | true =>
  rw [e0] at k0
  cases e1 : W 1 with
  | false =>
    rw [e1] at k1
    refine CallOk.run0 Try.func64 rfl rfl rfl rfl rfl (WpR.of_vc ?_)
    (conv => whnf); (repeat' (first | ((with_reducible refine ifb_mk (fun hc => ?_) (fun hc => ?_)) <;> ((try simp only [d9a, d9b, Bool.not_eq_true', Bool.not_eq_false', Int.not_lt, Int.not_le, ne_eq, d9c, beq_iff_eq, List.cons.injEq, and_true] at hc); (first | (exfalso; omega) | exact absurd True.intro hc | conv => whnf))) | ((with_reducible refine And.intro True.intro ?_); conv => whnf) | ((with_reducible refine CallX.all ?_); refine CallW.of_ok (k0 _) ?_; conv => whnf) | ((with_reducible refine CallX.all ?_); refine CallW.of_ok (k1 _) ?_; conv => whnf) | ((with_reducible refine WpR.loopU 5 ?_); conv => whnf) | (refine AppX.nil (n := 1) Nat.zero_lt_one (Nat.le_of_ble_eq_true rfl) ?_; conv => whnf) | (refine AppX.own (n := 1) rfl rfl rfl Nat.zero_lt_one (Nat.le_of_ble_eq_true rfl) ?_; conv => whnf) | ((with_reducible refine And.intro ?hh ?_); (case hh => exact condA); conv => whnf) | fail))
    all_goals first | (exfalso; omega) | (refine ⟨[], ?_, rfl, rfl, trivial, trivs⟩; simp only [renV, renL]; (first | done | rfl | (simp; done) | (simp; omega) | grind))
  | true =>
  rw [e1] at k1
  cases e2 : W 2 with
  | false =>
    rw [e2] at k2
    refine CallOk.run0 Try.func64 rfl rfl rfl rfl rfl (WpR.of_vc ?_)
    (conv => whnf); (repeat' (first | ((with_reducible refine ifb_mk (fun hc => ?_) (fun hc => ?_)) <;> ((try simp only [d9a, d9b, Bool.not_eq_true', Bool.not_eq_false', Int.not_lt, Int.not_le, ne_eq, d9c, beq_iff_eq, List.cons.injEq, and_true] at hc); (first | (exfalso; omega) | exact absurd True.intro hc | conv => whnf))) | ((with_reducible refine And.intro True.intro ?_); conv => whnf) | ((with_reducible refine CallX.all ?_); refine CallW.of_ok (k0 _) ?_; conv => whnf) | ((with_reducible refine CallX.all ?_); refine CallW.of_ok (k1 _) ?_; conv => whnf) | ((with_reducible refine CallX.all ?_); refine CallW.of_ok (k2 _) ?_; conv => whnf) | ((with_reducible refine WpR.loopU 5 ?_); conv => whnf) | (refine AppX.nil (n := 1) Nat.zero_lt_one (Nat.le_of_ble_eq_true rfl) ?_; conv => whnf) | (refine AppX.own (n := 1) rfl rfl rfl Nat.zero_lt_one (Nat.le_of_ble_eq_true rfl) ?_; conv => whnf) | ((with_reducible refine And.intro ?hh ?_); (case hh => exact condA); conv => whnf) | fail))
    all_goals first | (exfalso; omega) | (refine ⟨[], ?_, rfl, rfl, trivial, trivs⟩; simp only [renV, renL]; (first | done | rfl | (simp; done) | (simp; omega) | grind))
  | true =>
  rw [e2] at k2
  cases e3 : W 3 with
  | false =>
    rw [e3] at k3
    refine CallOk.run0 Try.func64 rfl rfl rfl rfl rfl (WpR.of_vc ?_)
    (conv => whnf); (repeat' (first | ((with_reducible refine ifb_mk (fun hc => ?_) (fun hc => ?_)) <;> ((try simp only [d9a, d9b, Bool.not_eq_true', Bool.not_eq_false', Int.not_lt, Int.not_le, ne_eq, d9c, beq_iff_eq, List.cons.injEq, and_true] at hc); (first | (exfalso; omega) | exact absurd True.intro hc | conv => whnf))) | ((with_reducible refine And.intro True.intro ?_); conv => whnf) | ((with_reducible refine CallX.all ?_); refine CallW.of_ok (k0 _) ?_; conv => whnf) | ((with_reducible refine CallX.all ?_); refine CallW.of_ok (k1 _) ?_; conv => whnf) | ((with_reducible refine CallX.all ?_); refine CallW.of_ok (k2 _) ?_; conv => whnf) | ((with_reducible refine CallX.all ?_); refine CallW.of_ok (k3 _) ?_; conv => whnf) | ((with_reducible refine WpR.loopU 5 ?_); conv => whnf) | (refine AppX.nil (n := 1) Nat.zero_lt_one (Nat.le_of_ble_eq_true rfl) ?_; conv => whnf) | (refine AppX.own (n := 1) rfl rfl rfl Nat.zero_lt_one (Nat.le_of_ble_eq_true rfl) ?_; conv => whnf) | ((with_reducible refine And.intro ?hh ?_); (case hh => exact condA); conv => whnf) | fail))
    all_goals first | (exfalso; omega) | (refine ⟨[], ?_, rfl, rfl, trivial, trivs⟩; simp only [renV, renL]; (first | done | rfl | (simp; done) | (simp; omega) | grind))
  | true =>
  rw [e3] at k3
  exfalso
  obtain ⟨d, h1, h2⟩ := hw2
  match d, h1 with
  | 0, _ => rw [e0] at h2; cases h2
  | 1, _ => rw [e1] at h2; cases h2
  | 2, _ => rw [e2] at h2; cases h2
  | 3, _ => rw [e3] at h2; cases h2
theorem pass_ok (h : As.H) (ex : Bool) (n : Nat) (hn : 1 ≤ n) (x y : Nat → Int) (hD : Dy n x) (hy : Pl n y) :
    CallOk Try.prog 64 [.rsl ex 2 n (lkG x y)] h (match alW n x y with | true => .tup [.rsl false 1 n (iG fun k => dif (qP n x y) k 0), .bool true] | false => .tup [.nils, .bool false]) h := by
  have hl := hD.le
  cases hw : alW n x y with
  | true =>
    have hf := FzL.tup (.cons (pa_fz (n0 := h.n) (i := 0) (m := n) (p := fun k => dif (qP n x y) k 0) (ex := false) (news := [paB n fun k => dif (qP n x y) k 0]) rfl (h.n + 0) rfl) (.cons (.same (v := .bool true) rfl) .nil))
    match n, hn, hl with
    | 1, _, _ => exact CallOk.freeze (passY1 h ex x y hD hy hw) hf (fun b hb => by rw [List.mem_singleton.1 hb]; rfl)
    | 2, _, _ => exact CallOk.freeze (passY2 h ex x y hD hy hw) hf (fun b hb => by rw [List.mem_singleton.1 hb]; rfl)
    | 3, _, _ => exact CallOk.freeze (passY3 h ex x y hD hy hw) hf (fun b hb => by rw [List.mem_singleton.1 hb]; rfl)
    | 4, _, _ => exact CallOk.freeze (passY4 h ex x y hD hy hw) hf (fun b hb => by rw [List.mem_singleton.1 hb]; rfl)
  | false =>
    match n, hn, hl with
    | 1, _, _ => exact passN1 h ex x y hD hy hw
    | 2, _, _ => exact passN2 h ex x y hD hy hw
    | 3, _, _ => exact passN3 h ex x y hD hy hw
    | 4, _, _ => exact passN4 h ex x y hD hy hw
end Go.Proofs.K
namespace Go.Proofs.K
open Go.As
set_option maxRecDepth 20000
theorem wrap64n {r : Int} (h : 0 ≤ r ∧ r < 65536) : IntKind.i64.wrap r = r := wrap_in (inR_of (by unfold InR; omega))
theorem and64 {a b : Nat} (ha : a < 65536) (hb : b < 65536) : IntKind.i64.wrap (((BitVec.ofInt IntKind.i64.bits (a : Int) &&& BitVec.ofInt IntKind.i64.bits (b : Int)).toNat : Nat) : Int) = ((a &&& b : Nat) : Int) := by
  have e : (BitVec.ofInt IntKind.i64.bits (a : Int) &&& BitVec.ofInt IntKind.i64.bits (b : Int)).toNat = a &&& b := by
    show (BitVec.ofInt 64 (a : Int) &&& BitVec.ofInt 64 (b : Int)).toNat = _
    rw [BitVec.toNat_and, BitVec.ofInt_natCast, BitVec.ofInt_natCast, BitVec.toNat_ofNat, BitVec.toNat_ofNat, Nat.mod_eq_of_lt (by omega), Nat.mod_eq_of_lt (by omega)]
  have hlt : a &&& b < 65536 := Nat.lt_of_le_of_lt Nat.and_le_left ha
  rw [e]
  exact wrap64n ⟨by omega, by omega⟩
theorem or64 {a b : Nat} (ha : a < 65536) (hb : b < 65536) : IntKind.i64.wrap (((BitVec.ofInt IntKind.i64.bits (a : Int) ||| BitVec.ofInt IntKind.i64.bits (b : Int)).toNat : Nat) : Int) = ((a ||| b : Nat) : Int) := by
  have e : (BitVec.ofInt IntKind.i64.bits (a : Int) ||| BitVec.ofInt IntKind.i64.bits (b : Int)).toNat = a ||| b := by
    show (BitVec.ofInt 64 (a : Int) ||| BitVec.ofInt 64 (b : Int)).toNat = _
    rw [BitVec.toNat_or, BitVec.ofInt_natCast, BitVec.ofInt_natCast, BitVec.toNat_ofNat, BitVec.toNat_ofNat, Nat.mod_eq_of_lt (by omega), Nat.mod_eq_of_lt (by omega)]
  have hlt : a ||| b < 65536 := Nat.or_lt_two_pow (n := 16) ha hb
  rw [e]
  exact wrap64n ⟨by omega, by omega⟩
theorem shr64 {a s : Nat} (hs : s < 16) : (a : Int).fdiv (2 ^ min (s : Int).toNat IntKind.i64.bits) = ((a >>> s : Nat) : Int) := by
  have hm : min (s : Int).toNat (IntKind.i64).bits = s := by show min (s : Int).toNat 64 = s; omega
  rw [hm, Int.fdiv_eq_ediv_of_nonneg _ (show (0 : Int) ≤ 2 ^ s from by have : (0 : Int) < 2 ^ s := Int.pow_pos (by decide); omega), Nat.shiftRight_eq_div_pow]
  simp
theorem shl64 {s : Nat} (hs : s < 16) : IntKind.i64.wrap (1 * 2 ^ min (s : Int).toNat IntKind.i64.bits) = ((2 ^ s : Nat) : Int) := by
  have hp : 2 ^ s < 65536 := Nat.pow_lt_pow_right (a := 2) (by omega) hs
  have hm : min (s : Int).toNat (IntKind.i64).bits = s := by show min (s : Int).toNat 64 = s; omega
  rw [hm, Int.one_mul, show ((2 : Int) ^ s) = ((2 ^ s : Nat) : Int) from by simp]
  generalize 2 ^ s = z at *
  exact wrap64n ⟨by omega, by omega⟩
def onN (ps : Nat → Bool) : Nat → Nat
  | 0 => 0
  | i + 1 => if ps i = true then onN ps i ||| 2 ^ i else onN ps i
theorem onN_bit {ps : Nat → Bool} : ∀ n k, (onN ps n).testBit k = (decide (k < n) && ps k)
  | 0, k => by unfold onN; rw [Nat.zero_testBit, decide_eq_false (Nat.not_lt_zero k)]; rfl
  | n + 1, k => by
    have ih := onN_bit (ps := ps) n k
    unfold onN
    cases hp : ps n with
    | true =>
      rw [if_pos rfl, Nat.testBit_or, Nat.testBit_two_pow, ih]
      by_cases e : k = n
      · subst e; simp [hp]
      · have h1 : decide (n = k) = false := decide_eq_false (fun h => e h.symm)
        have h2 : decide (k < n + 1) = decide (k < n) := by rw [Bool.eq_iff_iff, decide_eq_true_eq, decide_eq_true_eq]; omega
        rw [h1, h2, Bool.or_false]
    | false =>
      rw [if_neg (by decide), ih]
      by_cases e : k = n
      · subst e; simp [hp]
      · have h2 : decide (k < n + 1) = decide (k < n) := by rw [Bool.eq_iff_iff, decide_eq_true_eq, decide_eq_true_eq]; omega
        rw [h2]
theorem onN_lt {ps : Nat → Bool} : ∀ n, onN ps n < 2 ^ n
  | 0 => Nat.one_pos
  | n + 1 => by
    have ih := onN_lt (ps := ps) n
    have h2 : 2 ^ n < 2 ^ (n + 1) := Nat.pow_lt_pow_right (a := 2) (by omega) (by omega)
    unfold onN
    split
    · exact Nat.or_lt_two_pow (by omega) h2
    · omega
def pmF (m : Nat) (p : Nat → Int) (x y : Nat → Int) (i : Nat) : Bool := decide (plc p (x i).toNat m = y i)
theorem pmF_eq {m : Nat} {p : Nat → Int} {x y : Nat → Int} (hm : m ≤ 4) (i : Nat) : pmF m p x y i = psF (cut m p) x y i := by unfold pmF psF; rw [plc_cut 4 hm]
set_option maxHeartbeats 4000000 in
theorem on_ok (h : As.H) (ex ex2 : Bool) (n : Nat) (hn : n ≤ 12) (x y : Nat → Int) (hx : ∀ i, i < n → 0 ≤ x i ∧ x i ≤ 60) (m : Nat) (hm : m ≤ 4) (p : Nat → Int) (hp : Sm 8796093022208 m p) : CallOk Try.prog 43 [.rsl ex 2 n (lkG x y), .rsl ex2 1 m (iG p)] h (.int .i64 (onN (pmF m p x y) n)) h := by
  have kA := fun (d : Nat) (hd : d < 100) h' => atOf_ok h' ex2 m p d hd hm hp
  have hps : ∀ i, pmF m p x y i = decide (plc p (x i).toNat m = y i) := fun i => rfl
  have h0 : onN (pmF m p x y) 0 = 0 := rfl
  have hs : ∀ i, onN (pmF m p x y) (i + 1) = if pmF m p x y i = true then onN (pmF m p x y) i ||| 2 ^ i else onN (pmF m p x y) i := fun i => rfl
  have hl := fun i => onN_lt (ps := pmF m p x y) i
  generalize onN (pmF m p x y) = o at *
  generalize pmF m p x y = ps at *
  refine CallOk.run0 Try.func43 rfl rfl rfl rfl rfl (WpR.of_vc ?_)
  (conv => whnf); (repeat' (first | ((with_reducible refine ifb_mk (fun hc => ?_) (fun hc => ?_)) <;> ((try simp only [d9a, d9b, Bool.not_eq_true', Bool.not_eq_false', Int.not_lt, Int.not_le, ne_eq, d9c, beq_iff_eq, List.cons.injEq, and_true] at hc); (first | (exfalso; omega) | exact absurd True.intro hc | conv => whnf))) | ((with_reducible refine And.intro True.intro ?_); conv => whnf) | ((with_reducible refine And.intro ?hh ?_); (case hh => exact condA); conv => whnf) | fail))
  refine WpR.loopA (ι := Nat × Int) [] [0, 1] [] [] 0 (fun q => [(6, .int .i64 q.1), (5, .int .i64 q.2)]) (fun _ => []) (fun q => n - q.1) (fun q => q.1 ≤ n ∧ q.2 = o q.1) ?_ ((0, 0)) (⟨Nat.zero_le _, by rw [h0]; rfl⟩) [] Back.auto
  rintro ⟨i, s⟩ ⟨j1, j2⟩
  dsimp only at j1 j2
  subst j2
  refine WpR.of_vc ?_
  by_cases hi : i < n
  · obtain ⟨d, hd⟩ : ∃ d : Nat, x i = d := ⟨(x i).toNat, by have := hx i hi; omega⟩
    have kA := fun h' => kA d (by have := hx i hi; omega) h'
    have hpi := hps i
    have hsi := hs i
    rw [hd, show (d : Int).toNat = d from rfl] at hpi
    rw [← hd] at kA
    have hoi : o i < 65536 := Nat.lt_of_lt_of_le (hl i) (Nat.pow_le_pow_right (n := 2) (by omega) (by omega : i ≤ 16))
    have h2i : 2 ^ i < 65536 := Nat.pow_lt_pow_right (a := 2) (by omega) (by omega : i < 16)
    have eor : IntKind.i64.wrap (((BitVec.ofInt IntKind.i64.bits (o i : Int) ||| BitVec.ofInt IntKind.i64.bits (IntKind.i64.wrap (1 * 2 ^ min (i : Int).toNat IntKind.i64.bits))).toNat : Nat) : Int) = ((o i ||| 2 ^ i : Nat) : Int) := by rw [shl64 (by omega), or64 hoi h2i]
    generalize plc p d m = z at *
    by_cases hz : z = y i
    · rw [hpi, if_pos (decide_eq_true hz)] at hsi
      rw [← hsi] at eor
      (conv => whnf); (repeat' (first | ((with_reducible refine ifb_mk (fun hc => ?_) (fun hc => ?_)) <;> ((try simp only [d9a, d9b, Bool.not_eq_true', Bool.not_eq_false', Int.not_lt, Int.not_le, ne_eq, d9c, beq_iff_eq, List.cons.injEq, and_true] at hc); (first | (exfalso; omega) | exact absurd True.intro hc | conv => whnf))) | ((with_reducible refine And.intro True.intro ?_); conv => whnf) | ((with_reducible refine grd_and ?_); refine And.intro (hi) ?_; conv => whnf) | ((with_reducible refine CallX.all ?_); refine CallW.of_ok (kA _) ?_; conv => whnf) | ((with_reducible refine grd_ex ?_); refine ex_ok (kA _) ?_; conv => whnf) | ((with_reducible refine WpR.draw (id := 5) mixed [0, 1, 2, 3, 4, 5, 7, 8, 9, 10, 11, 6, 12] [0, 0, 0, 6, 14, 30, 63, 0, 0, 384, 896, 1920, 4095] ?hh ?_); (case hh => kernel_rfl); conv => whnf) | ((with_reducible refine And.intro ?hh ?_); (case hh => exact condA); conv => whnf) | fail))
      all_goals first | (exfalso; omega) | exact ⟨(i + 1, _), [], by dsimp only; omega, ⟨by dsimp only; omega, eor⟩, Back.auto⟩
    · rw [hpi, decide_eq_false hz, if_neg (by decide)] at hsi
      (conv => whnf); (repeat' (first | ((with_reducible refine ifb_mk (fun hc => ?_) (fun hc => ?_)) <;> ((try simp only [d9a, d9b, Bool.not_eq_true', Bool.not_eq_false', Int.not_lt, Int.not_le, ne_eq, d9c, beq_iff_eq, List.cons.injEq, and_true] at hc); (first | (exfalso; omega) | exact absurd True.intro hc | conv => whnf))) | ((with_reducible refine And.intro True.intro ?_); conv => whnf) | ((with_reducible refine grd_and ?_); refine And.intro (hi) ?_; conv => whnf) | ((with_reducible refine CallX.all ?_); refine CallW.of_ok (kA _) ?_; conv => whnf) | ((with_reducible refine grd_ex ?_); refine ex_ok (kA _) ?_; conv => whnf) | ((with_reducible refine WpR.draw (id := 5) mixed [0, 1, 2, 3, 4, 5, 7, 8, 9, 10, 11, 6, 12] [0, 0, 0, 6, 14, 30, 63, 0, 0, 384, 896, 1920, 4095] ?hh ?_); (case hh => kernel_rfl); conv => whnf) | ((with_reducible refine And.intro ?hh ?_); (case hh => exact condA); conv => whnf) | fail))
      all_goals first | (exfalso; omega) | exact ⟨(i + 1, (o i : Int)), [], by dsimp only; omega, ⟨by dsimp only; omega, by dsimp only; rw [hsi]⟩, Back.auto⟩
  · have e : i = n := by omega
    subst e
    (conv => whnf); (repeat' (first | ((with_reducible refine ifb_mk (fun hc => ?_) (fun hc => ?_)) <;> ((try simp only [d9a, d9b, Bool.not_eq_true', Bool.not_eq_false', Int.not_lt, Int.not_le, ne_eq, d9c, beq_iff_eq, List.cons.injEq, and_true] at hc); (first | (exfalso; omega) | exact absurd True.intro hc | conv => whnf))) | ((with_reducible refine And.intro True.intro ?_); conv => whnf) | ((with_reducible refine grd_and ?_); refine And.intro (hi) ?_; conv => whnf) | ((with_reducible refine And.intro ?hh ?_); (case hh => exact condA); conv => whnf) | fail))
    all_goals first | (exfalso; omega) | (refine ⟨[], ?_, rfl, rfl, trivial, trivs⟩; simp only [renV, renL]; (first | done | rfl | (simp; done) | (simp; omega) | grind))
theorem shr_zero {g i : Nat} (h : g >>> i = 0) : g < 2 ^ i := by
  rw [Nat.shiftRight_eq_div_pow] at h
  exact (Nat.div_eq_zero_iff_lt (Nat.two_pow_pos i)).1 h
theorem and_one (g i : Nat) : g >>> i &&& 1 = if g.testBit i = true then 1 else 0 := by
  unfold Nat.testBit
  rw [Nat.and_comm 1, Nat.and_one_is_mod]
  rcases Nat.mod_two_eq_zero_or_one (g >>> i) with e | e <;> rw [e] <;> rfl
set_option maxHeartbeats 4000000 in
theorem sizeR_ok (h : As.H) (g : Nat) (hg : g < 4096) : CallOk Try.prog 42 [.int .i64 g] h (.int .i64 (pcN g 16)) h := by
  have hcs : ∀ i, cnF g.testBit (i + 1) = cnF g.testBit i + (if g.testBit i = true then 1 else 0) := fun i => rfl
  have hc0 : cnF g.testBit 0 = 0 := rfl
  have hend : ∀ i, i ≤ 16 → g >>> i = 0 → pcN g 16 = cnF g.testBit i := fun i hi h => cnF_low (shr_zero h) hi
  have h12 : ∀ i, 12 ≤ i → g >>> i = 0 := fun i hi => by
    rw [Nat.shiftRight_eq_div_pow]
    exact Nat.div_eq_of_lt (Nat.lt_of_lt_of_le hg (Nat.pow_le_pow_right (n := 2) (by omega) hi))
  have hb := and_one g
  have hcl := fun i => cnF_le g.testBit i
  have hsl : ∀ i, g >>> i < 65536 := fun i => Nat.lt_of_le_of_lt (by rw [Nat.shiftRight_eq_div_pow]; exact Nat.div_le_self _ _) (by omega : g < 65536)
  generalize cnF g.testBit = c at *
  generalize pcN g 16 = R at *
  refine CallOk.run0 Try.func42 rfl rfl rfl rfl rfl (WpR.of_vc ?_)
  (conv => whnf); (repeat' (first | ((with_reducible refine ifb_mk (fun hc => ?_) (fun hc => ?_)) <;> ((try simp only [d9a, d9b, Bool.not_eq_true', Bool.not_eq_false', Int.not_lt, Int.not_le, ne_eq, d9c, beq_iff_eq, List.cons.injEq, and_true] at hc); (first | (exfalso; omega) | exact absurd True.intro hc | conv => whnf))) | ((with_reducible refine And.intro True.intro ?_); conv => whnf) | ((with_reducible refine And.intro ?hh ?_); (case hh => exact condA); conv => whnf) | fail))
  refine WpR.loopA (ι := Nat × Int) [] [0] [] [] 0 (fun q => [(4, .int .i64 q.1), (3, .int .i64 q.2)]) (fun _ => []) (fun q => 13 - q.1) (fun q => q.1 ≤ 12 ∧ q.2 = c q.1) ?_ ((0, 0)) (⟨Nat.zero_le _, by rw [hc0]; rfl⟩) [] Back.auto
  rintro ⟨i, s⟩ ⟨j1, j2⟩
  dsimp only at j1 j2
  subst j2
  refine WpR.of_vc ?_
  have e1 := shr64 (a := g) (s := i) (by omega)
  have hcli := hcl i
  have hcsi := hcs i
  by_cases hz : g >>> i = 0
  · have e := hend i (by omega) hz
    subst e
    have hgd : ¬ (0 < (g : Int).fdiv (2 ^ min (i : Int).toNat IntKind.i64.bits)) := by rw [e1]; omega
    (conv => whnf); (repeat' (first | ((with_reducible refine ifb_mk (fun hc => ?_) (fun hc => ?_)) <;> ((try simp only [d9a, d9b, Bool.not_eq_true', Bool.not_eq_false', Int.not_lt, Int.not_le, ne_eq, d9c, beq_iff_eq, List.cons.injEq, and_true] at hc); (first | (exfalso; omega) | exact absurd True.intro hc | conv => whnf))) | ((with_reducible refine And.intro True.intro ?_); conv => whnf) | ((with_reducible refine And.intro ?hh ?_); (case hh => exact condA); conv => whnf) | fail))
    all_goals first | (exact absurd (by assumption) hgd) | (exfalso; omega) | (refine ⟨[], ?_, rfl, rfl, trivial, trivs⟩; simp only [renV, renL]; (first | done | rfl | (simp; done) | (simp; omega) | grind))
  · have hi12 : i < 12 := by
      apply Classical.byContradiction
      intro hc
      exact hz (h12 i (by omega))
    have hgd : 0 < (g : Int).fdiv (2 ^ min (i : Int).toNat IntKind.i64.bits) := by rw [e1]; exact Int.ofNat_lt.2 (Nat.pos_of_ne_zero hz)
    have eand : IntKind.i64.wrap (((BitVec.ofInt IntKind.i64.bits ((g : Int).fdiv (2 ^ min (i : Int).toNat IntKind.i64.bits)) &&& BitVec.ofInt IntKind.i64.bits (1 : Int)).toNat : Nat) : Int) = ((c (i + 1) : Nat) : Int) - c i := by
      rw [e1]
      have := and64 (a := g >>> i) (b := 1) (hsl i) (by decide)
      rw [show ((1 : Nat) : Int) = 1 from rfl] at this
      have hd : ((if g.testBit i = true then 1 else 0 : Nat) : Int) = ((c (i + 1) : Nat) : Int) - c i := by rw [hcsi]; omega
      rw [this, hb i]
      exact hd
    have hle : c (i + 1) ≤ c i + 1 := by rw [hcsi]; split <;> omega
    have hge : c i ≤ c (i + 1) := by rw [hcsi]; omega
    have y1 : InR ((c i : Int) + IntKind.i64.wrap (((BitVec.ofInt IntKind.i64.bits ((g : Int).fdiv (2 ^ min (i : Int).toNat IntKind.i64.bits)) &&& BitVec.ofInt IntKind.i64.bits (1 : Int)).toNat : Nat) : Int)) := by rw [eand]; unfold InR; omega
    have y2 : (c i : Int) + IntKind.i64.wrap (((BitVec.ofInt IntKind.i64.bits ((g : Int).fdiv (2 ^ min (i : Int).toNat IntKind.i64.bits)) &&& BitVec.ofInt IntKind.i64.bits (1 : Int)).toNat : Nat) : Int) = c (i + 1) := by rw [eand]; omega
    (conv => whnf); (repeat' (first | ((with_reducible refine ifb_mk (fun hc => ?_) (fun hc => ?_)) <;> ((try simp only [d9a, d9b, Bool.not_eq_true', Bool.not_eq_false', Int.not_lt, Int.not_le, ne_eq, d9c, beq_iff_eq, List.cons.injEq, and_true] at hc); (first | (exfalso; omega) | exact absurd True.intro hc | conv => whnf))) | ((with_reducible refine And.intro True.intro ?_); conv => whnf) | ((with_reducible refine grd_and ?_); refine And.intro (y1) ?_; conv => whnf) | ((with_reducible refine And.intro ?hh ?_); (case hh => exact condA); conv => whnf) | fail))
    all_goals first | (exact absurd hgd (by assumption)) | (exfalso; omega) | exact ⟨(i + 1, _), [], by dsimp only; omega, ⟨by dsimp only; omega, y2⟩, Back.auto⟩
end Go.Proofs.K
namespace Go.Proofs.K
open Go.As
set_option maxRecDepth 20000
theorem on_size {n m : Nat} {p a b : Nat → Int} (hn : n ≤ 12) (hm : m ≤ 4) : pcN (onN (pmF m p a b) n) 16 = cnF (psF (cut m p) a b) n := by
  rw [cnF_low (onN_lt n) (by omega)]
  exact cnF_congr n fun i hi => by rw [onN_bit, decide_eq_true hi, Bool.true_and, pmF_eq hm]
theorem checkPathR_ok (h : As.H) (D : Int) (ex ex2 : Bool) (n : Nat) (a b : Nat → Int) (hn9 : n ≤ 9223372036854775807) (m : Nat) (hm : m ≤ 9223372036854775807) (p : Nat → Int) :
    CallOk Try.prog 26 [lgV D ex n a b, .rsl ex2 1 m (iG p)] h (.tup [.int .i64 (cpN D n a b m p), .int .i64 (ckQ D n a b m p)]) h := by
  unfold cpN
  have kC := fun h' => checkLogR_ok h' D ex n a b hn9
  by_cases hv : ckL D n a b = 0
  · obtain ⟨hD, l⟩ := ckL_lg hv
    have hq : ckQ D n a b m p = if (m : Int) = D + 1 then (if wiR (-1099511627776) 1099511627776 m p = true then 0 else 3) else 15 := by unfold ckQ; rw [if_pos hv]
    have kW := fun h' => isNumbers_ok h' m p ex2 hm
    rw [hv] at kC
    by_cases h1 : (m : Int) = D + 1
    · rw [if_pos h1] at hq
      cases h2 : wiR (-1099511627776) 1099511627776 m p with
      | false =>
        rw [h2] at kW hq
        rw [if_neg (by decide)] at hq
        rw [hq, if_neg (by decide)]
        refine CallOk.run0 Try.func26 rfl rfl rfl rfl rfl (WpR.of_vc ?_)
        (conv => whnf); (repeat' (first | ((with_reducible refine ifb_mk (fun hc => ?_) (fun hc => ?_)) <;> ((try simp only [d9a, d9b, Bool.not_eq_true', Bool.not_eq_false', Int.not_lt, Int.not_le, ne_eq, d9c, beq_iff_eq, List.cons.injEq, and_true] at hc); (first | (exfalso; omega) | exact absurd True.intro hc | conv => whnf))) | ((with_reducible refine And.intro True.intro ?_); conv => whnf) | ((with_reducible refine CallX.all ?_); refine CallW.of_ok (kC _) ?_; conv => whnf) | ((with_reducible refine CallX.all ?_); refine CallW.of_ok (kW _) ?_; conv => whnf) | ((with_reducible refine And.intro ?hh ?_); (case hh => exact condA); conv => whnf) | fail))
        all_goals first | (refine ⟨[], ?_, rfl, rfl, trivial, trivs⟩; simp only [renV, renL]; (first | done | rfl | (simp; done) | (simp; omega) | grind)) | (exfalso; omega)
      | true =>
        have hp : Sm 8796093022208 m p := fun k hk => by have := wiR_at h2 hk; omega
        have hle := l.le
        have hm4 : m ≤ 4 := by omega
        have kO := fun h' => on_ok h' ex ex2 n l.le a b l.rg m hm4 p hp
        have kZ := fun h' => sizeR_ok h' (onN (pmF m p a b) n) (Nat.lt_of_lt_of_le (onN_lt n) (Nat.pow_le_pow_right (n := 2) (by omega) hle))
        rw [on_size hle hm4] at kZ
        rw [h2] at kW hq
        rw [if_pos rfl] at hq
        rw [hq, if_pos rfl]
        generalize onN (pmF m p a b) n = g at *
        generalize cnF (psF (cut m p) a b) n = c at *
        refine CallOk.run0 Try.func26 rfl rfl rfl rfl rfl (WpR.of_vc ?_)
        (conv => whnf); (repeat' (first | ((with_reducible refine ifb_mk (fun hc => ?_) (fun hc => ?_)) <;> ((try simp only [d9a, d9b, Bool.not_eq_true', Bool.not_eq_false', Int.not_lt, Int.not_le, ne_eq, d9c, beq_iff_eq, List.cons.injEq, and_true] at hc); (first | (exfalso; omega) | exact absurd True.intro hc | conv => whnf))) | ((with_reducible refine And.intro True.intro ?_); conv => whnf) | ((with_reducible refine CallX.all ?_); refine CallW.of_ok (kC _) ?_; conv => whnf) | ((with_reducible refine CallX.all ?_); refine CallW.of_ok (kW _) ?_; conv => whnf) | ((with_reducible refine CallX.all ?_); refine CallW.of_ok (kO _) ?_; conv => whnf) | ((with_reducible refine CallX.all ?_); refine CallW.of_ok (kZ _) ?_; conv => whnf) | ((with_reducible refine And.intro ?hh ?_); (case hh => exact condA); conv => whnf) | fail))
        all_goals first | (refine ⟨[], ?_, rfl, rfl, trivial, trivs⟩; simp only [renV, renL]; (first | done | rfl | (simp; done) | (simp; omega) | grind)) | (exfalso; omega)
    · rw [if_neg h1] at hq
      rw [hq, if_neg (by decide)]
      refine CallOk.run0 Try.func26 rfl rfl rfl rfl rfl (WpR.of_vc ?_)
      (conv => whnf); (repeat' (first | ((with_reducible refine ifb_mk (fun hc => ?_) (fun hc => ?_)) <;> ((try simp only [d9a, d9b, Bool.not_eq_true', Bool.not_eq_false', Int.not_lt, Int.not_le, ne_eq, d9c, beq_iff_eq, List.cons.injEq, and_true] at hc); (first | (exfalso; omega) | exact absurd True.intro hc | conv => whnf))) | ((with_reducible refine And.intro True.intro ?_); conv => whnf) | ((with_reducible refine CallX.all ?_); refine CallW.of_ok (kC _) ?_; conv => whnf) | ((with_reducible refine And.intro ?hh ?_); (case hh => exact condA); conv => whnf) | fail))
      all_goals first | (refine ⟨[], ?_, rfl, rfl, trivial, trivs⟩; simp only [renV, renL]; (first | done | rfl | (simp; done) | (simp; omega) | grind)) | (exfalso; omega)
  · have hq : ckQ D n a b m p = ckL D n a b := by unfold ckQ; rw [if_neg hv]
    rw [hq, if_neg hv]
    generalize ckL D n a b = e at *
    refine CallOk.run0 Try.func26 rfl rfl rfl rfl rfl (WpR.of_vc ?_)
    (conv => whnf); (repeat' (first | ((with_reducible refine ifb_mk (fun hc => ?_) (fun hc => ?_)) <;> ((try simp only [d9a, d9b, Bool.not_eq_true', Bool.not_eq_false', Int.not_lt, Int.not_le, ne_eq, d9c, beq_iff_eq, List.cons.injEq, and_true] at hc); (first | (exfalso; omega) | exact absurd True.intro hc | conv => whnf))) | ((with_reducible refine And.intro True.intro ?_); conv => whnf) | ((with_reducible refine CallX.all ?_); refine CallW.of_ok (kC _) ?_; conv => whnf) | ((with_reducible refine And.intro ?hh ?_); (case hh => exact condA); conv => whnf) | fail))
    all_goals first | (refine ⟨[], ?_, rfl, rfl, trivial, trivs⟩; simp only [renV, renL]; (first | done | rfl | (simp; done) | (simp; omega) | grind)) | exact absurd (by assumption) hv
end Go.Proofs.K
namespace Go.Proofs.K
open Go.As
set_option maxRecDepth 20000
theorem prQ_count (P : C4 → Bool) (q : List C4) : ((prQ q).filter fun e => P e.1).length = q.countP P := by
  rw [← List.countP_eq_length_filter]
  have h1 : (prQ q).countP (fun e => P e.1) = ((prQ q).map (·.1)).countP P := by rw [List.countP_map]; rfl
  rw [h1, prQ_keys, List.countP_reverse]
theorem bst_len (cn : C4 → Nat) (q : List C4) : (bstL cn (prQ q)).length = q.countP fun c => decide (cn c = mxC cn (prQ q)) := prQ_count (fun c => decide (cn c = mxC cn (prQ q))) q
theorem wr_len (cn : C4 → Nat) (a b : Nat → Int) (x : Nat) (q : List C4) : wrN a b x (bstL cn (prQ q)) = q.countP fun c => !psF (f4 c) a b x && decide (cn c = mxC cn (prQ q)) := by
  rw [← prQ_count (fun c => !psF (f4 c) a b x && decide (cn c = mxC cn (prQ q))) q]
  unfold wrN bstL
  rw [List.filter_filter]
structure TwoL (D n : Nat) (a b a' b' : Nat → Int) (f g : C4 → C4) : Prop where
  fz : ∀ c, (∀ k, D < k → k < 4 → f4 c k = 0) → ∀ k, D < k → k < 4 → f4 (f c) k = 0
  gz : ∀ c, (∀ k, D < k → k < 4 → f4 c k = 0) → ∀ k, D < k → k < 4 → f4 (g c) k = 0
  fg : ∀ c, (∀ k, D < k → k < 4 → f4 c k = 0) → f (g c) = c
  gf : ∀ c, (∀ k, D < k → k < 4 → f4 c k = 0) → g (f c) = c
  cn : ∀ c, (∀ k, D < k → k < 4 → f4 c k = 0) → cnC n a' b' (f c) = cnC n a b c
section
variable {D n : Nat} {a b a' b' : Nat → Int} {f g : C4 → C4}
theorem TwoL.perm (hD : D ≤ 3) (l : Lg n a b) (l' : Lg n a' b') (t : TwoL D n a b a' b' f g) : (mpS D n a' b' (2 ^ n)).Perm ((mpS D n a b (2 ^ n)).map f) := by
  have hi := fun c => mpS_iff (c := c) hD l
  have hi' := fun c => mpS_iff (c := c) hD l'
  have hn := mpS_nodup D n a b (2 ^ n)
  have hn' := mpS_nodup D n a' b' (2 ^ n)
  generalize mpS D n a b (2 ^ n) = L at *
  generalize mpS D n a' b' (2 ^ n) = L' at *
  have hinj : (L.map f).Nodup := by
    rw [List.Nodup, List.pairwise_map]
    refine hn.imp_of_mem fun {x y} hx hy hne he => hne ?_
    rw [← t.gf x ((hi x).1 hx).1, ← t.gf y ((hi y).1 hy).1, he]
  rw [List.perm_ext_iff_of_nodup hn' hinj]
  intro c
  constructor
  · intro h
    obtain ⟨h1, h2⟩ := (hi' c).1 h
    refine List.mem_map.2 ⟨g c, (hi _).2 ⟨t.gz c h1, ?_⟩, t.fg c h1⟩
    rw [← t.cn _ (t.gz c h1), t.fg c h1]
    exact h2
  · intro h
    obtain ⟨x, hx, rfl⟩ := List.mem_map.1 h
    obtain ⟨h1, h2⟩ := (hi x).1 hx
    refine (hi' _).2 ⟨t.fz x h1, ?_⟩
    rw [t.cn x h1]
    exact h2
theorem TwoL.all (hD : D ≤ 3) (l : Lg n a b) (l' : Lg n a' b') (t : TwoL D n a b a' b' f g) :
    (mpS D n a b (2 ^ n) = [] ↔ mpS D n a' b' (2 ^ n) = []) ∧ mxC (cnC n a' b') (prQ (mpS D n a' b' (2 ^ n))) = mxC (cnC n a b) (prQ (mpS D n a b (2 ^ n))) ∧
    (bstL (cnC n a' b') (prQ (mpS D n a' b' (2 ^ n)))).length = (bstL (cnC n a b) (prQ (mpS D n a b (2 ^ n)))).length ∧
    ∀ x x', (∀ c, (∀ k, D < k → k < 4 → f4 c k = 0) → psF (f4 (f c)) a' b' x' = psF (f4 c) a b x) → wrN a' b' x' (bstL (cnC n a' b') (prQ (mpS D n a' b' (2 ^ n)))) = wrN a b x (bstL (cnC n a b) (prQ (mpS D n a b (2 ^ n)))) := by
  have hp := t.perm hD l l'
  have hz := fun c hc => ((mpS_iff (c := c) hD l).1 hc).1
  generalize mpS D n a b (2 ^ n) = L at *
  generalize mpS D n a' b' (2 ^ n) = L' at *
  have hcn := fun c hc => t.cn c (hz c hc)
  generalize cnC n a b = cn at *
  generalize cnC n a' b' = cn' at *
  have e0 : L = [] ↔ L' = [] := by
    constructor
    · intro h
      subst h
      exact List.Perm.eq_nil hp
    · intro h
      subst h
      exact List.map_eq_nil_iff.1 (List.Perm.eq_nil hp.symm)
  have e1 : mxC cn' (prQ L') = mxC cn (prQ L) := by
    by_cases h0 : L = []
    · rw [e0.1 h0, h0]; rfl
    · have h0' : L' ≠ [] := fun h => h0 (e0.2 h)
      obtain ⟨x, hx, h1⟩ := mx_at (cn := cn) h0
      obtain ⟨y, hy, h2⟩ := mx_at (cn := cn') h0'
      have h3 := mx_ge (cn := cn') (q := L') (c := f x) (hp.mem_iff.2 (List.mem_map_of_mem hx))
      obtain ⟨z, hzz, hzy⟩ := List.mem_map.1 (hp.mem_iff.1 hy)
      have h4 := mx_ge (cn := cn) hzz
      rw [hcn x hx] at h3
      rw [← hzy, hcn z hzz] at h2
      omega
  refine ⟨e0, e1, ?_, fun x x' hx => ?_⟩
  · rw [bst_len, bst_len, e1, hp.countP_eq, List.countP_map]
    refine List.countP_congr fun c hc => ?_
    show decide (cn' (f c) = _) = true ↔ decide (cn c = _) = true
    rw [hcn c hc]
  · rw [wr_len, wr_len, e1, hp.countP_eq, List.countP_map]
    refine List.countP_congr fun c hc => ?_
    show (!psF (f4 (f c)) a' b' x' && decide (cn' (f c) = _)) = true ↔ _
    rw [hcn c hc, hx c (hz c hc)]
end
end Go.Proofs.K
namespace Go.Proofs.K
open Go.As
set_option maxRecDepth 20000
theorem TwoL.symm {D n : Nat} {a b a' b' : Nat → Int} {f g : C4 → C4} (t : TwoL D n a b a' b' f g) : TwoL D n a' b' a b g f where
  fz := t.gz
  gz := t.fz
  fg := t.gf
  gf := t.fg
  cn := fun c hc => by rw [← t.cn _ (t.gz c hc), t.fg c hc]
end Go.Proofs.K
namespace Go.Proofs.K
open Go.As
set_option maxRecDepth 20000
def eS (x : Int × Int) : List V := [.int .i64 x.1, .int .i64 x.2]
theorem eS_bare (x : Int × Int) : ∀ v ∈ eS x, bare0 v = true := by
  intro v hv
  rcases List.mem_cons.1 hv with rfl | hv
  · rfl
  · rw [List.mem_singleton.1 hv]; rfl
theorem eS_len (x : Int × Int) : (eS x).length = 2 := rfl
theorem gP_bare (l : List (Int × Int)) : ∀ v ∈ gR eS l, bare0 v = true := gR_bare eS_bare
theorem gS_len (l : List (Int × Int)) : (gR eS l).length = l.length * 2 := gR_len eS_len l
theorem gS_one (l : List (Int × Int)) : (gR eS l).all one = true := gR_one eS_bare l
def lsT (a b : Nat → Int) : Nat → List (Int × Int)
  | 0 => []
  | j + 1 => (a j, b j) :: lsT a b j
theorem lsT_len (a b : Nat → Int) : ∀ n, (lsT a b n).length = n
  | 0 => rfl
  | n + 1 => by show (lsT a b n).length + 1 = n + 1; rw [lsT_len a b n]
theorem lsT_rev (a b : Nat → Int) : ∀ (n : Nat) (j : Nat) (x : Int × Int), (lsT a b n).reverse[j]? = some x → x = (a j, b j)
  | 0, j, x, h => by simp [lsT] at h
  | n + 1, j, x, h => by
    have e : (lsT a b (n + 1)).reverse = (lsT a b n).reverse ++ [(a n, b n)] := List.reverse_cons
    rw [e] at h
    by_cases hj : j < n
    · rw [List.getElem?_append_left (by rw [List.length_reverse, lsT_len]; exact hj)] at h
      exact lsT_rev a b n j x h
    · rw [List.getElem?_append_right (by rw [List.length_reverse, lsT_len]; omega), List.length_reverse, lsT_len] at h
      by_cases h2 : j = n
      · subst h2
        rw [Nat.sub_self] at h
        exact (Option.some.inj h).symm
      · rw [List.getElem?_eq_none (by simp; omega)] at h; cases h
end Go.Proofs.K
namespace Go.Proofs.K
open Go.As
set_option maxRecDepth 20000
theorem csP_sm2 {n : Nat} {x y : Nat → Int} (h : Dy n x) (hy : Pl n y) : Sm 700000000000 4 (thP n x y) := by
  intro k hk
  have b0 := qP_bd h hy (d := 0) (by omega)
  have b1 := qP_bd h hy (d := 1) (by omega)
  have b2 := qP_bd h hy (d := 2) (by omega)
  have b3 := qP_bd h hy (d := 3) (by omega)
  unfold thP
  cases alW n x y with
  | false => show _ ≤ (0 : Int) ∧ (0 : Int) ≤ _; omega
  | true =>
    show _ ≤ csP n (qP n x y) k ∧ csP n (qP n x y) k ≤ _
    unfold csP cut
    generalize qP n x y = q at *
    by_cases e : k < n
    · rw [if_pos e]
      match k, hk with
      | 0, _ => show _ ≤ q 0 ∧ q 0 ≤ _; omega
      | 1, _ => show _ ≤ q 1 - q 0 ∧ q 1 - q 0 ≤ _; omega
      | 2, _ => show _ ≤ q 2 - q 1 - (q 1 - q 0) ∧ q 2 - q 1 - (q 1 - q 0) ≤ _; omega
      | 3, _ => show _ ≤ q 3 - q 2 - (q 2 - q 1) - (q 2 - q 1 - (q 1 - q 0)) ∧ q 3 - q 2 - (q 2 - q 1) - (q 2 - q 1 - (q 1 - q 0)) ≤ _; omega
    · rw [if_neg e]; omega
theorem path_facts (d : Nat) (hd : d ≤ 3) (ex : Bool) (n : Nat) (a b : Nat → Int) (hv : ckL d n a b = 0) {c : C4} {q : List C4} (hF : mpS d n a b (2 ^ n) = c :: q) :
    ∃ g : Nat → Int, Sm 700000000000 4 g ∧ (∀ k, d < k → g k = 0) ∧ cnF (psF g a b) n = mxC (cnC n a b) (prQ (c :: q)) ∧ d + 1 ≤ mxC (cnC n a b) (prQ (c :: q)) ∧ mxC (cnC n a b) (prQ (c :: q)) ≤ n ∧
      ∀ h, CallOk Try.prog 35 [lgV d ex n a b] h (.tup [.rsl false 1 (d + 1) (iG g), .int .i64 0]) h := by
  have l := (ckL_lg hv).2
  obtain ⟨hM, g, hg, hl, hl2⟩ := best_set hF
  have kP := fun h => pathP_new h d hd ex n a b hv hF g hg hl hl2
  unfold lvG at hl
  rw [Bool.and_eq_true, Bool.and_eq_true, decide_eq_true_eq, decide_eq_true_eq] at hl
  have hmem := mpS_all (D := d) (a := a) (b := b) _ g hg hl.1 hl.2.1
  have hge := mx_ge (cn := cnC n a b) (q := c :: q) (c := c4 (crG n a b g)) (by rw [← hF]; exact hmem)
  have h2 := ((mpS_iff hd l).1 hmem).2
  rw [cnC_eq] at hge h2
  exact ⟨crG n a b g, csP_sm2 (slF_dy (by omega) l.rg l.up) (slF_pl l.at'), fun k hk => th_z (by omega), by omega, by omega, hM, kP⟩
end Go.Proofs.K
namespace Go.Proofs.K
open Go.As Go.ChangeShapes Go.WideShapes Go.Deep Go.ChangeAt Go.RowKit
set_option maxRecDepth 20000
section
variable {H : Type} {enc : TypeId × Value → H} {W : World}
theorem trod_struct2 {t : TypeId} {f0 f1 : Field} {fuel : Nat} {cs : List Value} {x : DataW H × List MemPlace} (ht : Try.prog.underlying t = some (.struct #[f0, f1])) (h : DataW.trod enc Try.prog W 0 (fun _ => true) true fuel t cs = some x) :
    ∃ y0 y1 n, x = (.agg [y0.1, y1.1], y0.2 ++ y1.2) ∧ cs.length = Try.prog.cellsOf t ∧ DataW.trod enc Try.prog W 0 (fun _ => true) true n f0.type ((cs.drop f0.offset).take (Try.prog.cellsOf f0.type)) = some y0 ∧
      DataW.trod enc Try.prog W 0 (fun _ => true) true n f1.type ((cs.drop f1.offset).take (Try.prog.cellsOf f1.type)) = some y1 := by
  obtain ⟨xs, n, _, rfl, hl, hlen, hf⟩ := DataW.trod_struct ht h
  match xs, hlen with
  | [y0, y1], _ => exact ⟨y0, y1, n, by simp, hl, by simpa using hf 0 f0 rfl, by simpa using hf 1 f1 rfl⟩
theorem ints_of {n t k : Nat} (hfl : flatI Try.prog n t = some k) {fuel : Nat} {cs : List Value} {x : DataW H × List MemPlace} (h : DataW.trod enc Try.prog W 0 (fun _ => true) true fuel t cs = some x) : x.2 = [] ∧ cs.length = k ∧ ∀ v ∈ cs, IsI v :=
  flatI_read n t k hfl fuel cs x.1 x.2 h
theorem s_read {fuel : Nat} {v : Value} {d : DataW H} {ps : List MemPlace} {b0 : Nat} (h : DataW.trod enc Try.prog W 0 (fun _ => true) true fuel 31 [v] = some (d, ps)) (hz : W.noneFrozen ps) (hok : Cell.okWide Try.prog W .any b0 31 v) :
    ∃ (n : Nat) (a b : Nat → Int), n ≤ 9223372036854775807 ∧ FR (zW W) (.rsl false 2 n (lkG a b)) v := by
  rcases slice_read (n := 5) (k := 2) Try.underlying31 (by kernel_rfl) (by kernel_rfl) h hz hok with rfl | ⟨ad, len, cap, f, c, et, flo, fhi, rfl, hlc, hlm, hb, hcs⟩
  · exact ⟨0, fun _ => 0, fun _ => 0, by simp, .rsl0⟩
  · refine ⟨len, fun i => f (i * 2), fun i => f (i * 2 + 1), hlm, FR.ints hlc hb hcs (fun i hi => ⟨rfl, fun j v hv => ?_⟩)⟩
    match j with
    | 0 => simp [lkG] at hv; rw [← hv, Nat.add_zero]
    | 1 => simp [lkG] at hv; rw [← hv]
    | j + 2 => simp [lkG] at hv
theorem log_read {v : Value} {d : DataW H} {ps : List MemPlace} {b0 : Nat} (hok : Value.okWide Try.prog W .any b0 33 v) (hd : DataW.Trod enc Try.prog W 0 (fun _ => true) true 33 v d ps) (hz : W.noneFrozen ps) :
    ∃ (S : Int) (n : Nat) (a b : Nat → Int), n ≤ 9223372036854775807 ∧ VR (mW W) (lgV S false n a b) v := by
  simp only [Value.okWide, Try.underlying33] at hok
  obtain ⟨cs, rfl, hsz, ts, hts, _, hcell⟩ := hok
  have hts' : Try.prog.cellTypes Try.prog.depth 33 = some [3, 31] := by kernel_rfl
  rw [hts'] at hts
  cases hts
  have c25 : Try.prog.cellsOf 33 = 2 := by kernel_rfl
  have c3 : Try.prog.cellsOf 3 = 1 := by kernel_rfl
  have c22 : Try.prog.cellsOf 31 = 1 := by kernel_rfl
  obtain ⟨fuel, hf⟩ := hd
  have hf' : DataW.trod enc Try.prog W 0 (fun _ => true) true fuel 33 cs.toList = some (d, ps) := hf
  obtain ⟨y0, y1, n, hx, hlen, h0, h1⟩ := trod_struct2 Try.underlying33 hf'
  rw [c25] at hsz
  obtain ⟨csl⟩ := cs
  dsimp only at h0 h1 hlen hf'
  match csl, hsz with
  | [a0, x], _ =>
  rw [c3] at h0
  rw [c22] at h1
  have h0' : DataW.trod enc Try.prog W 0 (fun _ => true) true n 3 [a0] = some y0 := h0
  have h1' : DataW.trod enc Try.prog W 0 (fun _ => true) true n 31 [x] = some y1 := h1
  obtain ⟨_, _, hI⟩ := ints_of (n := 5) (t := 3) (k := 1) (by kernel_rfl) h0'
  obtain ⟨P, rfl, _⟩ := hI a0 (by simp)
  obtain ⟨u2, hu2, hc2⟩ := hcell 1 x rfl
  cases hu2
  cases hx
  have hz2 : W.noneFrozen y1.2 := fun b off hp => hz b off (List.mem_append_right _ hp)
  obtain ⟨k, a, b, hk, hfr⟩ := s_read h1' hz2 hc2
  exact ⟨P, k, a, b, hk, Go.As.VRs.agg (.cons (.int _ _) (.cons hfr.vr (.nil _)))⟩
end
end Go.Proofs.K
namespace Go.Proofs.K
open Go.As
set_option maxRecDepth 20000
theorem lsT_congr {a b a' b' : Nat → Int} : ∀ n, (∀ j, j < n → a j = a' j ∧ b j = b' j) → lsT a b n = lsT a' b' n
  | 0, _ => rfl
  | n + 1, h => by
    show (a n, b n) :: lsT a b n = (a' n, b' n) :: lsT a' b' n
    rw [(h n (by omega)).1, (h n (by omega)).2, lsT_congr n fun j hj => h j (by omega)]
end Go.Proofs.K
namespace Go.Proofs.K
open Go.As
set_option maxRecDepth 20000
def onG (D n : Nat) (a b : Nat → Int) (g : Nat) : Int := ((onN (pmF (D + 1) (crG n a b g) a b) n : Nat) : Int)
def pqL (D n : Nat) (a b : Nat → Int) : Nat → List Int
  | 0 => []
  | g + 1 => if cnF g.testBit n = D + 1 ∧ wkG n a b g = true ∧ onG D n a b g ∉ pqL D n a b g then onG D n a b g :: pqL D n a b g else pqL D n a b g
theorem pq_len (D n : Nat) (a b : Nat → Int) : ∀ g, (pqL D n a b g).length ≤ g
  | 0 => Nat.le_refl _
  | g + 1 => by
    have ih := pq_len D n a b g
    unfold pqL
    split
    · rw [List.length_cons]; omega
    · omega
def slT (p : Nat → Bool) (a b : Nat → Int) (i : Nat) : List (Int × Int) := lsT (slF p a i) (slF p b i) (cnF p i)
section
variable {p : Nat → Bool} {a b : Nat → Int} {i : Nat}
theorem slT_yes (h : p i = true) : slT p a b (i + 1) = (a i, b i) :: slT p a b i := by
  obtain ⟨h1, h2⟩ := slF_yes (a := a) h
  have h3 := (slF_yes (a := b) h).2
  unfold slT
  rw [h1]
  show (slF p a (i + 1) (cnF p i), slF p b (i + 1) (cnF p i)) :: lsT _ _ (cnF p i) = _
  rw [h2, h3, if_pos rfl, if_pos rfl, lsT_congr (a' := slF p a i) (b' := slF p b i) _ fun j hj => ⟨by rw [h2, if_neg (by omega)], by rw [h3, if_neg (by omega)]⟩]
theorem slT_no (h : p i = false) : slT p a b (i + 1) = slT p a b i := by
  obtain ⟨h1, h2⟩ := slF_no (a := a) h
  have h3 := (slF_no (a := b) h).2
  unfold slT
  rw [h1, h2, h3]
theorem slT_len : (slT p a b i).length = cnF p i := lsT_len _ _ _
end
theorem th_sel {h : As.H} {q : Nat → Prop} {bb : Nat} {a b : Nat → Int} {n : Nat} (hq : q bb) (hb : h.get bb = some (.cells (ofL (gR eS (lsT a b (n + 1))) 0) true (some (2, (n + 1) * 2)))) : Th h q (.rsl false 2 (n + 1) (lkG a b)) (.sl bb 0 (n + 1) (n + 1) false) := by
  have hl := lsT_len a b (n + 1)
  refine .sl (c := ofL (gR eS (lsT a b (n + 1))) 0) hq hb (fun h => by cases h) (Nat.le_refl _) (fun j hj => rfl) fun j hj k v hv => ?_
  obtain ⟨x, hx⟩ : ∃ x, (lsT a b (n + 1)).reverse[j]? = some x := ⟨_, List.getElem?_eq_getElem (by rw [List.length_reverse, hl]; exact hj)⟩
  have e := lsT_rev a b (n + 1) j x hx
  have hv2 : (eS x)[k]? = some v := by rw [e]; exact hv
  refine ⟨?_, eS_bare x v (List.mem_of_getElem? hv2)⟩
  rw [Nat.zero_add]
  exact get_ofL0 (gR_at eS_len hx hv2)
def nfB (q : List Int) (x : Int) (i : Nat) : Bool := (q.reverse.take i).all fun y => decide (y ≠ x)
theorem nf_step {q : List Int} {x y : Int} {i : Nat} (h : q.reverse[i]? = some y) : nfB q x (i + 1) = (nfB q x i && decide (y ≠ x)) := by
  unfold nfB
  rw [List.take_add_one, h, List.all_append]
  simp
theorem nf_end {q : List Int} {x : Int} {i : Nat} (h : q.length ≤ i) : nfB q x i = true ↔ x ∉ q := by
  unfold nfB
  rw [List.take_of_length_le (by rw [List.length_reverse]; exact h), List.all_eq_true]
  constructor
  · intro h1 h2
    have := h1 x (List.mem_reverse.2 h2)
    rw [decide_eq_true_eq] at this
    exact this rfl
  · intro h1 y hy
    exact decide_eq_true fun e => h1 (by rw [← e]; exact List.mem_reverse.1 hy)
end Go.Proofs.K
namespace Go.Proofs.K
open Go.As
set_option maxRecDepth 20000
theorem gI_get {q : List Int} {i o : Nat} {y : Int} (h : q.reverse[i]? = some y) (ho : o = i) : (ofL (gR eI q) 0).get o = some (.int .i64 y) := by
  subst ho
  have h1 := gR_at (e := eI) (sz := 1) eI_len h (k := 0) (v := .int .i64 y) rfl
  rw [Nat.mul_one, Nat.add_zero] at h1
  exact get_ofL0 h1
set_option maxHeartbeats 16000000 in
theorem paths_new (h : As.H) (D : Nat) (hD : D ≤ 3) (ex : Bool) (n : Nat) (a b : Nat → Int) (l : Lg n a b) (L : List Int) (hL : L = pqL D n a b (2 ^ n)) :
    CallOk Try.prog 74 [lgV D ex n a b] h (grV (h.n + 0) L.length) (addBs h (gNew 1 eI L)) := by
  have hn := l.le
  have h2n : 2 ^ n ≤ 4096 := Nat.pow_le_pow_right (n := 2) (by omega) hn
  have kZ : ∀ g : Nat, g < 2 ^ n → ∀ h', CallOk Try.prog 42 [.int .i64 g] h' (.int .i64 ((cnF g.testBit n : Nat) : Int)) h' := fun g hg h' => by
    have k := sizeR_ok h' g (by omega)
    rwa [cnF_low hg (by omega)] at k
  have kP : ∀ g : Nat, cnF g.testBit n = D + 1 → wkG n a b g = true → ∀ (h' : As.H) (q2 : List (Int × Int)) (hq : q2 = slT g.testBit a b n) (hb : h'.get 2 = some (.cells (ofL (gR eS q2) 0) true (some (2, (D + 1) * 2)))), CallOk Try.prog 64 [.sl 2 0 (D + 1) (D + 1) false] h' (.tup [.rsl false 1 (D + 1) (iG fun k => dif (qP (D + 1) (slF g.testBit a n) (slF g.testBit b n)) k 0), .bool true]) (h'.put 2 .dead) := fun g hg hw h' q2 hq hb => by
    subst hq
    unfold slT at hb
    rw [hg] at hb
    have hdy := slF_dy (p := g.testBit) (a := a) (by omega) l.rg l.up
    have hpl := slF_pl (p := g.testBit) (b := b) l.at'
    rw [hg] at hdy hpl
    have k := pass_ok As.H.empty false (D + 1) (by omega) (slF g.testBit a n) (slF g.testBit b n) hdy hpl
    have hw' : alW (D + 1) (slF g.testBit a n) (slF g.testBit b n) = true := by rw [← hg]; exact hw
    rw [hw'] at k
    exact CallOk.thawF k rfl h' 2 hb (.cons (th_sel rfl hb) .nil) (fun m xs hv => occ0 hv)
  have kN : ∀ g : Nat, cnF g.testBit n = D + 1 → wkG n a b g = false → ∀ (h' : As.H) (q2 : List (Int × Int)) (hq : q2 = slT g.testBit a b n) (hb : h'.get 2 = some (.cells (ofL (gR eS q2) 0) true (some (2, (D + 1) * 2)))), CallOk Try.prog 64 [.sl 2 0 (D + 1) (D + 1) false] h' (.tup [.nils, .bool false]) h' := fun g hg hw h' q2 hq hb => by
    subst hq
    unfold slT at hb
    rw [hg] at hb
    have hdy := slF_dy (p := g.testBit) (a := a) (by omega) l.rg l.up
    have hpl := slF_pl (p := g.testBit) (b := b) l.at'
    rw [hg] at hdy hpl
    have k := pass_ok As.H.empty false (D + 1) (by omega) (slF g.testBit a n) (slF g.testBit b n) hdy hpl
    have hw' : alW (D + 1) (slF g.testBit a n) (slF g.testBit b n) = false := by rw [← hg]; exact hw
    rw [hw'] at k
    exact CallOk.thaw k rfl h' (.cons (th_sel trivial hb) .nil)
  have kO : ∀ g : Nat, cnF g.testBit n = D + 1 → wkG n a b g = true → ∀ h', CallOk Try.prog 43 [.rsl ex 2 n (lkG a b), .rsl false 1 (D + 1) (iG fun k => dif (qP (D + 1) (slF g.testBit a n) (slF g.testBit b n)) k 0)] h' (.int .i64 (onG D n a b g)) h' := fun g hg hw h' => by
    have hdy := slF_dy (p := g.testBit) (a := a) (by omega) l.rg l.up
    have hpl := slF_pl (p := g.testBit) (b := b) l.at'
    have hsm := csP_sm2 hdy hpl
    have hcr : ∀ k, k < D + 1 → crG n a b g k = dif (qP (D + 1) (slF g.testBit a n) (slF g.testBit b n)) k 0 := fun k hk => by
      unfold crG
      rw [hg]
      unfold thP
      have hw' : alW (D + 1) (slF g.testBit a n) (slF g.testBit b n) = true := by rw [← hg]; exact hw
      rw [hw']
      show cut (D + 1) _ k = _
      unfold cut
      rw [if_pos hk]
    have k := on_ok h' ex false n hn a b l.rg (D + 1) (by omega) (fun k => dif (qP (D + 1) (slF g.testBit a n) (slF g.testBit b n)) k 0) fun k hk => by
      have := hsm k (by omega)
      have e := hcr k hk
      unfold crG at e
      dsimp only
      rw [← e]; omega
    have e : onN (pmF (D + 1) (fun k => dif (qP (D + 1) (slF g.testBit a n) (slF g.testBit b n)) k 0) a b) n = onN (pmF (D + 1) (crG n a b g) a b) n := by
      congr 1
      funext i
      unfold pmF
      rw [plc_congr (D + 1) fun k hk => (hcr k hk).symm]
    rw [e] at k
    exact k
  have esh := shl64 (s := n) (by omega)
  have hp0 : pqL D n a b 0 = [] := rfl
  have hps : ∀ g, pqL D n a b (g + 1) = if cnF g.testBit n = D + 1 ∧ wkG n a b g = true ∧ onG D n a b g ∉ pqL D n a b g then onG D n a b g :: pqL D n a b g else pqL D n a b g := fun g => rfl
  have hpl := pq_len D n a b
  have hrng := l.rg
  generalize pqL D n a b = PQ at *
  refine CallOk.runN Try.func74 rfl rfl (argsC := [lgV D ex n a b]) (fun N => grV (N + 0) L.length) (fun _ => gNew 1 eI L) (Nat.le_of_ble_eq_true rfl) [] (.cons (.lt0 rfl) .nil) (viewM0 h) (grSh _ _ _ 1 0 _ eI L (by simp)) rfl (fun i b hi => ⟨b, hi, grBs eI_bare hi⟩) (WpR.of_vc ?_)
  have hMap : ∀ n (q : List Int), ltB n (grB 1 (gR eI q) q.length) := fun n q => grB_lt (gR_bare eI_bare) _
  have hMap2 : ∀ n (q : List (Int × Int)), ltB n (grB 2 (gR eS q) q.length) := fun n q => grB_lt (gR_bare eS_bare) _
  have hMapA := hMap
  have hMapB := hMap2
  have hMapC : ∀ k, ltB k (.cells (ofL (lgV D ex n a b).cells 0) true none) := fun k => ltB_ofL (by intro v hv; (repeat (rcases List.mem_cons.1 hv with rfl | hv; exact rfl)); cases hv)
  (conv => whnf); (repeat' (first | ((with_reducible refine ifb_mk (fun hc => ?_) (fun hc => ?_)) <;> ((try simp only [d9a, d9b, Bool.not_eq_true', Bool.not_eq_false', Int.not_lt, Int.not_le, ne_eq, d9c, beq_iff_eq, List.cons.injEq, and_true] at hc); (first | (exfalso; omega) | exact absurd True.intro hc | conv => whnf))) | ((with_reducible refine And.intro True.intro ?_); conv => whnf) | ((with_reducible refine And.intro ?hh ?_); (case hh => exact condA); conv => whnf) | fail))
  refine WpR.loopA (ι := Nat × List Int) [1] [0, 1] [1] [] 2 (fun p => [(3, grV 1 p.2.length), (4, .int .i64 p.1)]) (fun p => [(1, grB 1 (gR eI p.2) p.2.length)]) (fun p => 2 ^ n - p.1) (fun p => p.1 ≤ 2 ^ n ∧ p.2 = PQ p.1) ?_ ((0, [])) (⟨Nat.zero_le _, hp0.symm⟩) [] Back.auto (htv := fun p _ => ⟨grV_lt rfl _, rfl, trivial⟩)
  rintro ⟨g, q⟩ ⟨j1, j2⟩
  dsimp only at j1 j2
  refine WpR.of_vc ?_
  have hql := hpl g
  have hpg := hps g
  rw [← j2] at hql hpg
  by_cases hg : g < 2 ^ n
  · have hgt : (g : Int) < IntKind.i64.wrap (1 * 2 ^ min (n : Int).toNat IntKind.i64.bits) := by rw [esh]; omega
    have kZg := kZ g hg
    by_cases hc : cnF g.testBit n = D + 1
    rotate_left
    · rw [if_neg (fun h => hc h.1)] at hpg
      generalize cnF g.testBit n = cg at *
      (conv => whnf); (repeat' (first | ((with_reducible refine ifb_mk (fun hc => ?_) (fun hc => ?_)) <;> ((try simp only [d9a, d9b, Bool.not_eq_true', Bool.not_eq_false', Int.not_lt, Int.not_le, ne_eq, d9c, beq_iff_eq, List.cons.injEq, and_true] at hc); (first | (exfalso; omega) | exact absurd True.intro hc | conv => whnf))) | ((with_reducible refine And.intro True.intro ?_); conv => whnf) | ((with_reducible refine grd_and ?_); refine And.intro (hgt) ?_; conv => whnf) | ((with_reducible refine CallX.all ?_); refine CallW.of_ok (kZg _) ?_; conv => whnf) | ((with_reducible refine grd_ex ?_); refine ex_ok (kZg _) ?_; conv => whnf) | ((with_reducible refine WpR.draw (id := 5) mixed [0, 2, 3, 4, 1, 5] [0, 1, 0, 4, 12, 31] ?hh ?_); (case hh => kernel_rfl); conv => whnf) | ((with_reducible refine And.intro ?hh ?_); (case hh => exact condA); conv => whnf) | fail))
      all_goals first | (exfalso; omega) | exact ⟨(g + 1, q), [], by dsimp only; omega, ⟨by dsimp only; omega, hpg.symm⟩, Back.auto⟩
    have hav : ∀ k, avV [2] (grV 1 k) = true := fun k => by cases k <;> rfl
    have e1 := fun i (hi : i < n) => shr64 (a := g) (s := i) (by omega)
    have eand : ∀ i, i < n → IntKind.i64.wrap (((BitVec.ofInt IntKind.i64.bits ((g : Int).fdiv (2 ^ min (i : Int).toNat IntKind.i64.bits)) &&& BitVec.ofInt IntKind.i64.bits (1 : Int)).toNat : Nat) : Int) = if g.testBit i = true then 1 else 0 := fun i hi => by
      rw [e1 i hi]
      have hsl : g >>> i < 65536 := Nat.lt_of_le_of_lt (by rw [Nat.shiftRight_eq_div_pow]; exact Nat.div_le_self _ _) (by omega : g < 65536)
      have := and64 (a := g >>> i) (b := 1) hsl (by decide)
      rw [show ((1 : Nat) : Int) = 1 from rfl] at this
      rw [this, and_one]
      split <;> rfl
    have kPg := kP g hc
    have kNg := kN g hc
    have kOg := kO g hc
    have hsy := fun i (h : g.testBit i = true) => slT_yes (p := g.testBit) (a := a) (b := b) (i := i) h
    have hsn := fun i (h : g.testBit i = false) => slT_no (p := g.testBit) (a := a) (b := b) (i := i) h
    have hs0 : slT g.testBit a b 0 = [] := rfl
    have hsl := fun i => slT_len (p := g.testBit) (a := a) (b := b) (i := i)
    have hcl := fun i (hi : i ≤ n) => cnF_mono (p := g.testBit) hi
    have hcD : cnF g.testBit n = D + 1 := hc
    clear kP kN kO kZ e1
    generalize slT g.testBit a b = SL at *
    rw [hc] at kZg
    (conv => whnf); (repeat' (first | ((with_reducible refine ifb_mk (fun hc => ?_) (fun hc => ?_)) <;> ((try simp only [d9a, d9b, Bool.not_eq_true', Bool.not_eq_false', Int.not_lt, Int.not_le, ne_eq, d9c, beq_iff_eq, List.cons.injEq, and_true] at hc); (first | (exfalso; omega) | exact absurd True.intro hc | conv => whnf))) | ((with_reducible refine And.intro True.intro ?_); conv => whnf) | ((with_reducible refine grd_and ?_); refine And.intro (hgt) ?_; conv => whnf) | ((with_reducible refine CallX.all ?_); refine CallW.of_ok (kZg _) ?_; conv => whnf) | ((with_reducible refine grd_ex ?_); refine ex_ok (kZg _) ?_; conv => whnf) | ((with_reducible refine WpR.draw (id := 5) mixed [0, 2, 3, 4, 1, 5] [0, 1, 0, 4, 12, 31] ?hh ?_); (case hh => kernel_rfl); conv => whnf) | ((with_reducible refine And.intro ?hh ?_); (case hh => exact condA); conv => whnf) | fail))
    all_goals first | (exfalso; omega) | skip
    refine WpR.loopA (ι := Nat × List (Int × Int)) [2] [0, 1, 3, 4] [2] [] 3 (fun p => [(5, grV 2 p.2.length), (6, .int .i64 p.1)]) (fun p => [(2, grB 2 (gR eS p.2) p.2.length)]) (fun p => n - p.1) (fun p => p.1 ≤ n ∧ p.2 = SL p.1) ?_ ((0, [])) (⟨Nat.zero_le _, hs0.symm⟩) [] Back.auto (htv := fun p _ => ⟨grV_lt rfl _, rfl, trivial⟩) (hka := by (repeat' (first | exact True.intro | refine And.intro ?_ ?_ | rfl | exact hav _)))
    rintro ⟨i, q2⟩ ⟨k1, k2⟩
    dsimp only at k1 k2
    refine WpR.of_vc ?_
    have hq2 := hsl i
    rw [← k2] at hq2
    have hci := hcl i k1
    by_cases hi : i < n
    · have ea := eand i hi
      cases hb : g.testBit i with
      | true =>
        rw [hb, if_pos rfl] at ea
        have e := hsy i hb
        rw [← k2] at e
        (conv => whnf); (repeat' (first | ((with_reducible refine ifb_mk (fun hc => ?_) (fun hc => ?_)) <;> ((try simp only [d9a, d9b, Bool.not_eq_true', Bool.not_eq_false', Int.not_lt, Int.not_le, ne_eq, d9c, beq_iff_eq, List.cons.injEq, and_true] at hc); (first | (exfalso; omega) | exact absurd True.intro hc | conv => whnf))) | ((with_reducible refine And.intro True.intro ?_); conv => whnf) | ((with_reducible refine grd_and ?_); refine And.intro (hi) ?_; conv => whnf) | ((with_reducible refine grd_and ?_); refine And.intro (ea) ?_; conv => whnf) | (refine AppX.gr (n := 1) (L := gR eS q2) (len := q2.length) rfl rfl (gS_len q2) (gS_one q2) Nat.zero_lt_one (by omega) ?_; conv => whnf) | ((with_reducible refine And.intro ?hh ?_); (case hh => exact condA); conv => whnf) | fail))
        all_goals first | (exact absurd ea (by assumption)) | (exfalso; omega) | exact ⟨(i + 1, (a i, b i) :: q2), [(2, 4)], by dsimp only; omega, ⟨by dsimp only; omega, e.symm⟩, Back.auto⟩
      | false =>
        rw [hb, if_neg Bool.false_ne_true] at ea
        have ea1 : ¬ IntKind.i64.wrap (((BitVec.ofInt IntKind.i64.bits ((g : Int).fdiv (2 ^ min (i : Int).toNat IntKind.i64.bits)) &&& BitVec.ofInt IntKind.i64.bits (1 : Int)).toNat : Nat) : Int) = 1 := by rw [ea]; decide
        have e := hsn i hb
        rw [← k2] at e
        (conv => whnf); (repeat' (first | ((with_reducible refine ifb_mk (fun hc => ?_) (fun hc => ?_)) <;> ((try simp only [d9a, d9b, Bool.not_eq_true', Bool.not_eq_false', Int.not_lt, Int.not_le, ne_eq, d9c, beq_iff_eq, List.cons.injEq, and_true] at hc); (first | (exfalso; omega) | exact absurd True.intro hc | conv => whnf))) | ((with_reducible refine And.intro True.intro ?_); conv => whnf) | ((with_reducible refine grd_and ?_); refine And.intro (hi) ?_; conv => whnf) | ((with_reducible refine grd_and ?_); refine And.intro (ea1) ?_; conv => whnf) | ((with_reducible refine And.intro ?hh ?_); (case hh => exact condA); conv => whnf) | fail))
        all_goals first | (exact absurd (by assumption) ea1) | (exfalso; omega) | exact ⟨(i + 1, q2), [], by dsimp only; omega, ⟨by dsimp only; omega, e.symm⟩, Back.auto⟩
    · have ei : i = n := by omega
      rw [ei] at k2 hq2
      rw [hcD] at hq2
      obtain ⟨y2, q3, rfl⟩ : ∃ y q', q2 = y :: q' := by
        cases q2 with
        | nil => simp at hq2
        | cons y q' => exact ⟨y, q', rfl⟩
      have hD3 : q3.length = D := by simpa using hq2
      subst hD3
      clear hsy hsn hs0 hsl hcl eand hci hq2
      cases hw : wkG n a b g with
      | false =>
        have kNg := kNg hw
        rw [if_neg (fun h => by rw [hw] at h; exact absurd h.2.1 (by decide))] at hpg
        (conv => whnf); (repeat' (first | ((with_reducible refine ifb_mk (fun hc => ?_) (fun hc => ?_)) <;> ((try simp only [d9a, d9b, Bool.not_eq_true', Bool.not_eq_false', Int.not_lt, Int.not_le, ne_eq, d9c, beq_iff_eq, List.cons.injEq, and_true] at hc); (first | (exfalso; omega) | exact absurd True.intro hc | conv => whnf))) | ((with_reducible refine And.intro True.intro ?_); conv => whnf) | ((with_reducible refine grd_and ?_); refine And.intro (hi) ?_; conv => whnf) | ((with_reducible refine CallX.all ?_); refine CallW.of_ok (kNg _ (y2 :: q3) k2 rfl) ?_; conv => whnf) | ((with_reducible refine And.intro ?hh ?_); (case hh => exact condA); conv => whnf) | fail))
        all_goals first | (exfalso; omega) | exact ⟨(g + 1, q), [], by dsimp only; omega, ⟨by dsimp only; omega, hpg.symm⟩, Back.auto⟩
      | true =>
        have kPg := kPg hw
        have kOg := kOg hw
        simp only [hcD, hw, true_and] at hpg
        generalize onG q3.length n a b g = on at *
        generalize (fun k => dif (qP (q3.length + 1) (slF g.testBit a n) (slF g.testBit b n)) k 0) = pp at *
        cases q with
        | nil =>
          rw [if_pos (by simp)] at hpg
          (conv => whnf); (repeat' (first | ((with_reducible refine ifb_mk (fun hc => ?_) (fun hc => ?_)) <;> ((try simp only [d9a, d9b, Bool.not_eq_true', Bool.not_eq_false', Int.not_lt, Int.not_le, ne_eq, d9c, beq_iff_eq, List.cons.injEq, and_true] at hc); (first | (exfalso; omega) | exact absurd True.intro hc | conv => whnf))) | ((with_reducible refine And.intro True.intro ?_); conv => whnf) | ((with_reducible refine WpR.loopU 1 ?_); conv => whnf) | ((with_reducible refine grd_and ?_); refine And.intro (hi) ?_; conv => whnf) | ((with_reducible refine CallX.all ?_); refine CallW.of_ok (kPg _ (y2 :: q3) k2 rfl) ?_; conv => whnf) | ((with_reducible refine CallX.all ?_); refine CallW.of_ok (kOg _) ?_; conv => whnf) | (refine AppX.nil (n := 1) Nat.zero_lt_one (Nat.le_of_ble_eq_true rfl) ?_; conv => whnf) | ((with_reducible refine And.intro ?hh ?_); (case hh => exact condA); conv => whnf) | fail))
          all_goals first | (exfalso; omega) | exact ⟨(g + 1, [on]), [(1, 4)], by dsimp only; omega, ⟨by dsimp only; omega, hpg.symm⟩, Back.auto⟩
        | cons y q' =>
          have hql2 : (y :: q').length = q'.length + 1 := rfl
          have hget := fun i z o (hz : (y :: q').reverse[i]? = some z) ho => gI_get (o := o) hz ho
          (conv => whnf); (repeat' (first | ((with_reducible refine ifb_mk (fun hc => ?_) (fun hc => ?_)) <;> ((try simp only [d9a, d9b, Bool.not_eq_true', Bool.not_eq_false', Int.not_lt, Int.not_le, ne_eq, d9c, beq_iff_eq, List.cons.injEq, and_true] at hc); (first | (exfalso; omega) | exact absurd True.intro hc | conv => whnf))) | ((with_reducible refine And.intro True.intro ?_); conv => whnf) | ((with_reducible refine grd_and ?_); refine And.intro (hi) ?_; conv => whnf) | ((with_reducible refine CallX.all ?_); refine CallW.of_ok (kPg _ (y2 :: q3) k2 rfl) ?_; conv => whnf) | ((with_reducible refine CallX.all ?_); refine CallW.of_ok (kOg _) ?_; conv => whnf) | ((with_reducible refine And.intro ?hh ?_); (case hh => exact condA); conv => whnf) | fail))
          all_goals first | (exfalso; omega) | skip
          refine WpR.loopA (ι := Nat × Bool) [] [0, 1, 3, 4, 9] [] [] 3 (fun p => [(10, .bool p.2), (11, .int .i64 p.1)]) (fun p => []) (fun p => q'.length + 1 - p.1) (fun p => p.1 ≤ q'.length + 1 ∧ p.2 = nfB (y :: q') on p.1) ?_ ((0, true)) (⟨Nat.zero_le _, rfl⟩) [] Back.auto
          rintro ⟨r, fr⟩ ⟨m1, m2⟩
          dsimp only at m1 m2
          refine WpR.of_vc ?_
          by_cases hr : r < q'.length + 1
          · obtain ⟨z, hz⟩ : ∃ z, (y :: q').reverse[r]? = some z := ⟨_, List.getElem?_eq_getElem (by rw [List.length_reverse]; exact hr)⟩
            have hst := nf_step (x := on) hz
            rw [← m2] at hst
            have hgz := fun o ho => hget r z o hz ho
            cases fr with
            | false =>
              (conv => whnf); (repeat' (first | ((with_reducible refine ifb_mk (fun hc => ?_) (fun hc => ?_)) <;> ((try simp only [d9a, d9b, Bool.not_eq_true', Bool.not_eq_false', Int.not_lt, Int.not_le, ne_eq, d9c, beq_iff_eq, List.cons.injEq, and_true] at hc); (first | (exfalso; omega) | exact absurd True.intro hc | conv => whnf))) | ((with_reducible refine And.intro True.intro ?_); conv => whnf) | ((with_reducible refine grd_and ?_); refine And.intro (hr) ?_; conv => whnf) | ((with_reducible refine And.intro ?hh ?_); (case hh => exact condA); conv => whnf) | fail))
              all_goals first | (exfalso; omega) | exact ⟨(r + 1, false), [], by dsimp only; omega, ⟨by dsimp only; omega, hst.symm⟩, Back.auto⟩
            | true =>
              (conv => whnf); (repeat' (first | ((with_reducible refine ifb_mk (fun hc => ?_) (fun hc => ?_)) <;> ((try simp only [d9a, d9b, Bool.not_eq_true', Bool.not_eq_false', Int.not_lt, Int.not_le, ne_eq, d9c, beq_iff_eq, List.cons.injEq, and_true] at hc); (first | (exfalso; omega) | exact absurd True.intro hc | conv => whnf))) | ((with_reducible refine And.intro True.intro ?_); conv => whnf) | ((with_reducible refine grd_and ?_); refine And.intro (hr) ?_; conv => whnf) | ((with_reducible refine grd_get ?_); refine som_mk (a := ?_) ?hh ?_; (case hh => exact hgz _ (by show 0 + Int.toNat (r : Int) * 1 = r; omega)); conv => whnf) | ((with_reducible refine And.intro ?hh ?_); (case hh => exact condA); conv => whnf) | fail))
              all_goals first | (exfalso; omega) | exact ⟨(r + 1, decide (z ≠ on)), [], by dsimp only; omega, ⟨by dsimp only; omega, by rw [hst, Bool.true_and]⟩, Back.auto⟩
          · have hne := nf_end (q := y :: q') (x := on) (i := r) (by rw [hql2]; omega)
            rw [← m2] at hne
            cases fr with
            | false =>
              rw [if_neg (fun h => by have := hne.2 h; cases this)] at hpg
              (conv => whnf); (repeat' (first | ((with_reducible refine ifb_mk (fun hc => ?_) (fun hc => ?_)) <;> ((try simp only [d9a, d9b, Bool.not_eq_true', Bool.not_eq_false', Int.not_lt, Int.not_le, ne_eq, d9c, beq_iff_eq, List.cons.injEq, and_true] at hc); (first | (exfalso; omega) | exact absurd True.intro hc | conv => whnf))) | ((with_reducible refine And.intro True.intro ?_); conv => whnf) | ((with_reducible refine grd_and ?_); refine And.intro (hr) ?_; conv => whnf) | ((with_reducible refine And.intro ?hh ?_); (case hh => exact condA); conv => whnf) | fail))
              all_goals first | (exfalso; omega) | exact ⟨(g + 1, y :: q'), [], by dsimp only; omega, ⟨by dsimp only; omega, hpg.symm⟩, Back.auto⟩
            | true =>
              rw [if_pos (hne.1 rfl)] at hpg
              (conv => whnf); (repeat' (first | ((with_reducible refine ifb_mk (fun hc => ?_) (fun hc => ?_)) <;> ((try simp only [d9a, d9b, Bool.not_eq_true', Bool.not_eq_false', Int.not_lt, Int.not_le, ne_eq, d9c, beq_iff_eq, List.cons.injEq, and_true] at hc); (first | (exfalso; omega) | exact absurd True.intro hc | conv => whnf))) | ((with_reducible refine And.intro True.intro ?_); conv => whnf) | ((with_reducible refine grd_and ?_); refine And.intro (hr) ?_; conv => whnf) | (refine AppX.own (n := 1) (L := gR eI (y :: q')) (len := q'.length + 1) rfl (gI_len (y :: q')) (gI_one (y :: q')) Nat.zero_lt_one (by omega) ?_; conv => whnf) | ((with_reducible refine And.intro ?hh ?_); (case hh => exact condA); conv => whnf) | fail))
              all_goals first | (exfalso; omega) | exact ⟨(g + 1, on :: y :: q'), [(1, 4)], by dsimp only; omega, ⟨by dsimp only; omega, hpg.symm⟩, Back.auto⟩
  · have eg : g = 2 ^ n := by omega
    subst eg
    rw [← j2] at hL
    subst hL
    clear j2 hpg hps hp0 hpl kZ kP kN kO
    have hgt : ¬ ((2 ^ n : Nat) : Int) < IntKind.i64.wrap (1 * 2 ^ min (n : Int).toNat IntKind.i64.bits) := by rw [esh]; omega
    cases L with
    | nil =>
      (conv => whnf); (repeat' (first | ((with_reducible refine ifb_mk (fun hc => ?_) (fun hc => ?_)) <;> ((try simp only [d9a, d9b, Bool.not_eq_true', Bool.not_eq_false', Int.not_lt, Int.not_le, ne_eq, d9c, beq_iff_eq, List.cons.injEq, and_true] at hc); (first | (exfalso; omega) | exact absurd True.intro hc | conv => whnf))) | ((with_reducible refine And.intro True.intro ?_); conv => whnf) | ((with_reducible refine grd_and ?_); refine And.intro (hgt) ?_; conv => whnf) | ((with_reducible refine And.intro ?hh ?_); (case hh => exact condA); conv => whnf) | fail))
      all_goals first | (exact absurd (by assumption) hgt) | (exfalso; omega) | exact ⟨[], rfl, rfl, rfl, trivial, trivs⟩
    | cons y q' =>
      (conv => whnf); (repeat' (first | ((with_reducible refine ifb_mk (fun hc => ?_) (fun hc => ?_)) <;> ((try simp only [d9a, d9b, Bool.not_eq_true', Bool.not_eq_false', Int.not_lt, Int.not_le, ne_eq, d9c, beq_iff_eq, List.cons.injEq, and_true] at hc); (first | (exfalso; omega) | exact absurd True.intro hc | conv => whnf))) | ((with_reducible refine And.intro True.intro ?_); conv => whnf) | ((with_reducible refine grd_and ?_); refine And.intro (hgt) ?_; conv => whnf) | ((with_reducible refine And.intro ?hh ?_); (case hh => exact condA); conv => whnf) | fail))
      all_goals first | (exact absurd (by assumption) hgt) | (exfalso; omega) | exact ⟨[1], rfl, rfl, rfl, ⟨⟨_, rfl, rfl, SubQ.ofL rfl (gI_bare (y :: q')) (.inr rfl)⟩, ltB_ofLb (gI_bare (y :: q')), rfl, trivial⟩, trivs⟩
end Go.Proofs.K
namespace Go.Proofs.K
open Go.As
set_option maxRecDepth 20000
def mxF (s : Nat → Nat) : Nat → Nat
  | 0 => 0
  | i + 1 => max (mxF s i) (s i)
def bqF (s pn : Nat → Nat) (m : Nat) : Nat → List Int
  | 0 => []
  | i + 1 => if s i = m then ((pn i : Nat) : Int) :: bqF s pn m i else bqF s pn m i
theorem bq_len (s pn : Nat → Nat) (m : Nat) : ∀ i, (bqF s pn m i).length ≤ i
  | 0 => Nat.le_refl _
  | i + 1 => by
    have ih := bq_len s pn m i
    unfold bqF
    split
    · rw [List.length_cons]; omega
    · omega
def pF (P : List Int) (j : Nat) : Nat := (gL P j).toNat
theorem pq_nat {D n : Nat} {a b : Nat → Int} : ∀ g, ∀ x ∈ pqL D n a b g, ∃ k : Nat, x = k ∧ k < 2 ^ n
  | 0, x, h => by cases h
  | g + 1, x, h => by
    unfold pqL at h
    split at h
    · rcases List.mem_cons.1 h with rfl | h
      · exact ⟨_, rfl, onN_lt _⟩
      · exact pq_nat g x h
    · exact pq_nat g x h
theorem paths_ok (h : As.H) (D : Nat) (hD : D ≤ 3) (ex : Bool) (n : Nat) (a b : Nat → Int) (l : Lg n a b) : CallOk Try.prog 74 [lgV D ex n a b] h (.rsl false 1 (pqL D n a b (2 ^ n)).length (iG fun j => ((pF (pqL D n a b (2 ^ n)).reverse j : Nat) : Int))) h := by
  refine gr_freeze eI_len eI_bare (paths_new h D hD ex n a b l _ rfl) fun j x hx => ?_
  have hm := List.mem_reverse.1 (List.mem_of_getElem? hx)
  obtain ⟨k, hk, _⟩ := pq_nat _ x hm
  have e : gL (pqL D n a b (2 ^ n)).reverse j = x := by unfold gL; rw [List.getD_eq_getElem?_getD, hx]; rfl
  show [V.int .i64 ((pF (pqL D n a b (2 ^ n)).reverse j : Nat) : Int)] = [V.int .i64 x]
  unfold pF
  rw [e, hk]; rfl
set_option maxHeartbeats 8000000 in
theorem bestR_new (h : As.H) (D : Nat) (ex : Bool) (n : Nat) (hn : n ≤ 12) (a b : Nat → Int) (N : Nat) (hN : N ≤ 4096) (pn : Nat → Nat) (hpn : ∀ j, j < N → pn j < 2 ^ n) (kP : ∀ h' : As.H, CallOk Try.prog 74 [lgV D ex n a b] h' (.rsl false 1 N (iG fun j => ((pn j : Nat) : Int))) h')
    (m : Nat) (hm : m = mxF (fun j => cnF (pn j).testBit n) N) (B : List Int) (hB : B = bqF (fun j => cnF (pn j).testBit n) pn m N) :
    CallOk Try.prog 71 [lgV D ex n a b] h (.tup [grV (h.n + 0) B.length, .int .i64 m]) (addBs h (gNew 1 eI B)) := by
  have h2n : 2 ^ n ≤ 4096 := Nat.pow_le_pow_right (n := 2) (by omega) hn
  have kZ : ∀ j, j < N → ∀ h', CallOk Try.prog 42 [.int .i64 ((pn j : Nat) : Int)] h' (.int .i64 ((cnF (pn j).testBit n : Nat) : Int)) h' := fun j hj h' => by
    have k := sizeR_ok h' (pn j) (by have := hpn j hj; omega)
    rwa [cnF_low (hpn j hj) (by omega)] at k
  have hm0 : mxF (fun j => cnF (pn j).testBit n) 0 = 0 := rfl
  have hms : ∀ i, mxF (fun j => cnF (pn j).testBit n) (i + 1) = max (mxF (fun j => cnF (pn j).testBit n) i) (cnF (pn i).testBit n) := fun i => rfl
  have hb0 : bqF (fun j => cnF (pn j).testBit n) pn m 0 = [] := rfl
  have hbs : ∀ i, bqF (fun j => cnF (pn j).testBit n) pn m (i + 1) = if cnF (pn i).testBit n = m then ((pn i : Nat) : Int) :: bqF (fun j => cnF (pn j).testBit n) pn m i else bqF (fun j => cnF (pn j).testBit n) pn m i := fun i => rfl
  have hbl := bq_len (fun j => cnF (pn j).testBit n) pn m
  generalize mxF (fun j => cnF (pn j).testBit n) = MX at *
  generalize bqF (fun j => cnF (pn j).testBit n) pn m = BQ at *
  generalize hS : (fun j => cnF (pn j).testBit n) = S at *
  have hSj : ∀ j, cnF (pn j).testBit n = S j := fun j => by rw [← hS]
  simp only [hSj] at kZ hms hbs
  clear hS hSj
  refine CallOk.runN Try.func71 rfl rfl (argsC := [lgV D ex n a b]) (fun N => .tup [grV (N + 0) B.length, .int .i64 m]) (fun _ => gNew 1 eI B) (Nat.le_of_ble_eq_true rfl) [] (.cons (.lt0 rfl) .nil) (viewM0 h) (ShV.tup (.cons (grSh _ _ _ 1 0 _ eI B (by simp)) (.cons (.bare rfl) .nil))) rfl (fun i b hi => ⟨b, hi, grBs eI_bare hi⟩) (WpR.of_vc ?_)
  (conv => whnf); (repeat' (first | ((with_reducible refine ifb_mk (fun hc => ?_) (fun hc => ?_)) <;> ((try simp only [d9a, d9b, Bool.not_eq_true', Bool.not_eq_false', Int.not_lt, Int.not_le, ne_eq, d9c, beq_iff_eq, List.cons.injEq, and_true] at hc); (first | (exfalso; omega) | exact absurd True.intro hc | conv => whnf))) | ((with_reducible refine And.intro True.intro ?_); conv => whnf) | ((with_reducible refine CallX.all ?_); refine CallW.of_ok (kP _) ?_; conv => whnf) | ((with_reducible refine And.intro ?hh ?_); (case hh => exact condA); conv => whnf) | fail))
  refine WpR.loopA (ι := Nat × Int) [] [1, 4] [] [] 1 (fun p => [(5, .int .i64 p.2), (6, .int .i64 p.1)]) (fun p => []) (fun p => N - p.1) (fun p => p.1 ≤ N ∧ p.2 = (MX p.1 : Nat)) ?_ ((0, 0)) (⟨Nat.zero_le _, by rw [hm0]; rfl⟩) [] Back.auto
  rintro ⟨i, mm⟩ ⟨j1, j2⟩
  dsimp only at j1 j2
  refine WpR.of_vc ?_
  by_cases hi : i < N
  · have kZi := kZ i hi
    have hmi := hms i
    have e : (match ilt mm ((S i : Nat) : Int) with | true => ((S i : Nat) : Int) | false => mm) = max mm ((S i : Nat) : Int) := max_ilt _ _
    (conv => whnf); (repeat' (first | ((with_reducible refine ifb_mk (fun hc => ?_) (fun hc => ?_)) <;> ((try simp only [d9a, d9b, Bool.not_eq_true', Bool.not_eq_false', Int.not_lt, Int.not_le, ne_eq, d9c, beq_iff_eq, List.cons.injEq, and_true] at hc); (first | (exfalso; omega) | exact absurd True.intro hc | conv => whnf))) | ((with_reducible refine And.intro True.intro ?_); conv => whnf) | ((with_reducible refine grd_and ?_); refine And.intro (hi) ?_; conv => whnf) | ((with_reducible refine CallX.all ?_); refine CallW.of_ok (kZi _) ?_; conv => whnf) | ((with_reducible refine And.intro ?hh ?_); (case hh => exact condA); conv => whnf) | fail))
    all_goals first | (exfalso; omega) | exact ⟨(i + 1, (match ilt mm ((S i : Nat) : Int) with | true => ((S i : Nat) : Int) | false => mm)), [], by dsimp only; omega, ⟨by dsimp only; omega, by dsimp only; rw [e, hmi, j2]; omega⟩, Back.auto⟩
  · have ei : i = N := by omega
    subst ei
    rw [← hm] at j2
    subst j2
    clear hms hm0
    (conv => whnf); (repeat' (first | ((with_reducible refine ifb_mk (fun hc => ?_) (fun hc => ?_)) <;> ((try simp only [d9a, d9b, Bool.not_eq_true', Bool.not_eq_false', Int.not_lt, Int.not_le, ne_eq, d9c, beq_iff_eq, List.cons.injEq, and_true] at hc); (first | (exfalso; omega) | exact absurd True.intro hc | conv => whnf))) | ((with_reducible refine And.intro True.intro ?_); conv => whnf) | ((with_reducible refine grd_and ?_); refine And.intro (hi) ?_; conv => whnf) | ((with_reducible refine And.intro ?hh ?_); (case hh => exact condA); conv => whnf) | fail))
    have hMap2 : ∀ n (q : List Int), ltB n (grB 1 (gR eI q) q.length) := fun n q => grB_lt (gR_bare eI_bare) _
    refine WpR.loopA (ι := Nat × List Int) [1] [1, 4, 5] [1] [] 2 (fun p => [(7, grV 1 p.2.length), (8, .int .i64 p.1)]) (fun p => [(1, grB 1 (gR eI p.2) p.2.length)]) (fun p => i - p.1) (fun p => p.1 ≤ i ∧ p.2 = BQ p.1) ?_ ((0, [])) (⟨Nat.zero_le _, hb0.symm⟩) [] Back.auto (htv := fun p _ => ⟨grV_lt rfl _, rfl, trivial⟩)
    rintro ⟨j, q⟩ ⟨k1, k2⟩
    dsimp only at k1 k2
    refine WpR.of_vc ?_
    have hq := hbl j
    rw [← k2] at hq
    have hbj := hbs j
    rw [← k2] at hbj
    by_cases hj : j < i
    · have kZj := kZ j hj
      by_cases hs : S j = m
      · rw [if_pos hs] at hbj
        (conv => whnf); (repeat' (first | ((with_reducible refine ifb_mk (fun hc => ?_) (fun hc => ?_)) <;> ((try simp only [d9a, d9b, Bool.not_eq_true', Bool.not_eq_false', Int.not_lt, Int.not_le, ne_eq, d9c, beq_iff_eq, List.cons.injEq, and_true] at hc); (first | (exfalso; omega) | exact absurd True.intro hc | conv => whnf))) | ((with_reducible refine And.intro True.intro ?_); conv => whnf) | ((with_reducible refine grd_and ?_); refine And.intro (hj) ?_; conv => whnf) | ((with_reducible refine CallX.all ?_); refine CallW.of_ok (kZj _) ?_; conv => whnf) | (refine AppX.gr (n := 1) (L := gR eI q) (len := q.length) rfl rfl (gI_len q) (gI_one q) Nat.zero_lt_one (by omega) ?_; conv => whnf) | ((with_reducible refine And.intro ?hh ?_); (case hh => exact condA); conv => whnf) | fail))
        all_goals first | (exfalso; omega) | exact ⟨(j + 1, ((pn j : Nat) : Int) :: q), [(1, 3)], by dsimp only; omega, ⟨by dsimp only; omega, hbj.symm⟩, Back.auto⟩
      · rw [if_neg hs] at hbj
        (conv => whnf); (repeat' (first | ((with_reducible refine ifb_mk (fun hc => ?_) (fun hc => ?_)) <;> ((try simp only [d9a, d9b, Bool.not_eq_true', Bool.not_eq_false', Int.not_lt, Int.not_le, ne_eq, d9c, beq_iff_eq, List.cons.injEq, and_true] at hc); (first | (exfalso; omega) | exact absurd True.intro hc | conv => whnf))) | ((with_reducible refine And.intro True.intro ?_); conv => whnf) | ((with_reducible refine grd_and ?_); refine And.intro (hj) ?_; conv => whnf) | ((with_reducible refine CallX.all ?_); refine CallW.of_ok (kZj _) ?_; conv => whnf) | ((with_reducible refine And.intro ?hh ?_); (case hh => exact condA); conv => whnf) | fail))
        all_goals first | (exfalso; omega) | exact ⟨(j + 1, q), [], by dsimp only; omega, ⟨by dsimp only; omega, hbj.symm⟩, Back.auto⟩
    · have ej : j = i := by omega
      rw [ej, ← hB] at k2
      subst k2
      clear hB hbj hq
      cases q with
      | nil =>
        (conv => whnf); (repeat' (first | ((with_reducible refine ifb_mk (fun hc => ?_) (fun hc => ?_)) <;> ((try simp only [d9a, d9b, Bool.not_eq_true', Bool.not_eq_false', Int.not_lt, Int.not_le, ne_eq, d9c, beq_iff_eq, List.cons.injEq, and_true] at hc); (first | (exfalso; omega) | exact absurd True.intro hc | conv => whnf))) | ((with_reducible refine And.intro True.intro ?_); conv => whnf) | ((with_reducible refine grd_and ?_); refine And.intro (hj) ?_; conv => whnf) | ((with_reducible refine And.intro ?hh ?_); (case hh => exact condA); conv => whnf) | fail))
        all_goals first | (exfalso; omega) | exact ⟨[], rfl, rfl, rfl, trivial, trivs⟩
      | cons y q' =>
        (conv => whnf); (repeat' (first | ((with_reducible refine ifb_mk (fun hc => ?_) (fun hc => ?_)) <;> ((try simp only [d9a, d9b, Bool.not_eq_true', Bool.not_eq_false', Int.not_lt, Int.not_le, ne_eq, d9c, beq_iff_eq, List.cons.injEq, and_true] at hc); (first | (exfalso; omega) | exact absurd True.intro hc | conv => whnf))) | ((with_reducible refine And.intro True.intro ?_); conv => whnf) | ((with_reducible refine grd_and ?_); refine And.intro (hj) ?_; conv => whnf) | ((with_reducible refine And.intro ?hh ?_); (case hh => exact condA); conv => whnf) | fail))
        all_goals first | (exfalso; omega) | exact ⟨[1], rfl, rfl, rfl, ⟨⟨_, rfl, rfl, SubQ.ofL rfl (gI_bare (y :: q')) (.inr rfl)⟩, ltB_ofLb (gI_bare (y :: q')), rfl, trivial⟩, trivs⟩
end Go.Proofs.K
namespace Go.Proofs.K
open Go.As
set_option maxRecDepth 20000
theorem bq_mem (s pn : Nat → Nat) (m : Nat) : ∀ i, ∀ x ∈ bqF s pn m i, ∃ j, j < i ∧ x = ((pn j : Nat) : Int)
  | 0, x, h => by cases h
  | i + 1, x, h => by
    unfold bqF at h
    split at h
    · rcases List.mem_cons.1 h with rfl | h
      · exact ⟨i, by omega, rfl⟩
      · obtain ⟨j, h1, h2⟩ := bq_mem s pn m i x h; exact ⟨j, by omega, h2⟩
    · obtain ⟨j, h1, h2⟩ := bq_mem s pn m i x h; exact ⟨j, by omega, h2⟩
section
variable {D n : Nat} {a b : Nat → Int}
def bmR (D n : Nat) (a b : Nat → Int) : Nat := mxF (fun j => cnF (pF (pqL D n a b (2 ^ n)).reverse j).testBit n) (pqL D n a b (2 ^ n)).length
def bsR (D n : Nat) (a b : Nat → Int) : List Int := bqF (fun j => cnF (pF (pqL D n a b (2 ^ n)).reverse j).testBit n) (pF (pqL D n a b (2 ^ n)).reverse) (bmR D n a b) (pqL D n a b (2 ^ n)).length
theorem pn_lt {j : Nat} (hj : j < (pqL D n a b (2 ^ n)).length) : pF (pqL D n a b (2 ^ n)).reverse j < 2 ^ n := by
  obtain ⟨x, hx⟩ : ∃ x, (pqL D n a b (2 ^ n)).reverse[j]? = some x := ⟨_, List.getElem?_eq_getElem (by rw [List.length_reverse]; exact hj)⟩
  obtain ⟨k, hk, h2⟩ := pq_nat _ x (List.mem_reverse.1 (List.mem_of_getElem? hx))
  unfold pF gL
  rw [List.getD_eq_getElem?_getD, hx]
  show x.toNat < 2 ^ n
  omega
theorem bs_nat : ∀ x ∈ bsR D n a b, ∃ k : Nat, x = k ∧ k < 2 ^ n := fun x hx => by
  obtain ⟨j, hj, rfl⟩ := bq_mem _ _ _ _ x hx
  exact ⟨_, rfl, pn_lt hj⟩
theorem bs_at {j : Nat} (hj : j < (bsR D n a b).length) : pF (bsR D n a b).reverse j < 2 ^ n ∧ (bsR D n a b).reverse[j]? = some ((pF (bsR D n a b).reverse j : Nat) : Int) := by
  obtain ⟨x, hx⟩ : ∃ x, (bsR D n a b).reverse[j]? = some x := ⟨_, List.getElem?_eq_getElem (by rw [List.length_reverse]; exact hj)⟩
  obtain ⟨k, rfl, h2⟩ := bs_nat x (List.mem_reverse.1 (List.mem_of_getElem? hx))
  have e : pF (bsR D n a b).reverse j = k := by
    unfold pF gL
    rw [List.getD_eq_getElem?_getD, hx]; rfl
  rw [e]
  exact ⟨h2, hx⟩
theorem bs_len (l : Lg n a b) : (bsR D n a b).length ≤ 4096 := by
  have h1 := pq_len D n a b (2 ^ n)
  have h2 := bq_len (fun j => cnF (pF (pqL D n a b (2 ^ n)).reverse j).testBit n) (pF (pqL D n a b (2 ^ n)).reverse) (bmR D n a b) (pqL D n a b (2 ^ n)).length
  have h3 : 2 ^ n ≤ 4096 := Nat.pow_le_pow_right (n := 2) (by omega) l.le
  unfold bsR
  omega
theorem bestR_ok (h : As.H) (hD : D ≤ 3) (ex : Bool) (l : Lg n a b) : CallOk Try.prog 71 [lgV D ex n a b] h (.tup [.rsl false 1 (bsR D n a b).length (iG fun j => ((pF (bsR D n a b).reverse j : Nat) : Int)), .int .i64 ((bmR D n a b : Nat) : Int)]) h := by
  have hpl := pq_len D n a b (2 ^ n)
  have h3 : 2 ^ n ≤ 4096 := Nat.pow_le_pow_right (n := 2) (by omega) l.le
  have hc := bestR_new h D ex n l.le a b _ (by omega) (pF (pqL D n a b (2 ^ n)).reverse) (fun j hj => pn_lt hj) (fun h' => paths_ok h' D hD ex n a b l) _ rfl _ rfl
  exact CallOk.freeze hc (FzL.tup (.cons (grFz (i := 0) (n0 := h.n) (sz := 1) eI_len eI_bare (l := bsR D n a b) (fun b hb => hb) (g := iG fun j => ((pF (bsR D n a b).reverse j : Nat) : Int)) fun j x hx => by
    have hj : j < (bsR D n a b).length := by have := (List.getElem?_eq_some_iff.1 hx).1; rwa [List.length_reverse] at this
    rw [(bs_at hj).2] at hx
    rw [← Option.some.inj hx]; rfl) (.cons (.same rfl) .nil))) gNew_wr
theorem mostR_ok (h : As.H) (hD : D ≤ 3) (ex : Bool) (hv : ckL D n a b = 0) : CallOk Try.prog 30 [lgV D ex n a b] h (.tup [.int .i64 ((bmR D n a b : Nat) : Int), .int .i64 (if bmR D n a b = 0 then 23 else 0)]) h := by
  have l := (ckL_lg hv).2
  have hn := l.le
  have kC := fun h' => checkLogR_ok h' D ex n a b (by omega)
  rw [hv] at kC
  have kB := fun h' => bestR_ok h' hD ex l
  generalize bmR D n a b = m at *
  by_cases h0 : m = 0
  · rw [if_pos h0]
    subst h0
    refine CallOk.run0 Try.func30 rfl rfl rfl rfl rfl (WpR.of_vc ?_)
    (conv => whnf); (repeat' (first | ((with_reducible refine ifb_mk (fun hc => ?_) (fun hc => ?_)) <;> ((try simp only [d9a, d9b, Bool.not_eq_true', Bool.not_eq_false', Int.not_lt, Int.not_le, ne_eq, d9c, beq_iff_eq, List.cons.injEq, and_true] at hc); (first | (exfalso; omega) | exact absurd True.intro hc | conv => whnf))) | ((with_reducible refine And.intro True.intro ?_); conv => whnf) | ((with_reducible refine CallX.all ?_); refine CallW.of_ok (kC _) ?_; conv => whnf) | ((with_reducible refine CallX.all ?_); refine CallW.of_ok (kB _) ?_; conv => whnf) | ((with_reducible refine And.intro ?hh ?_); (case hh => exact condA); conv => whnf) | fail))
    all_goals first | (refine ⟨[], ?_, rfl, rfl, trivial, trivs⟩; simp only [renV, renL]; (first | done | rfl | (simp; done) | (simp; omega) | grind)) | (exfalso; omega)
  · rw [if_neg h0]
    refine CallOk.run0 Try.func30 rfl rfl rfl rfl rfl (WpR.of_vc ?_)
    (conv => whnf); (repeat' (first | ((with_reducible refine ifb_mk (fun hc => ?_) (fun hc => ?_)) <;> ((try simp only [d9a, d9b, Bool.not_eq_true', Bool.not_eq_false', Int.not_lt, Int.not_le, ne_eq, d9c, beq_iff_eq, List.cons.injEq, and_true] at hc); (first | (exfalso; omega) | exact absurd True.intro hc | conv => whnf))) | ((with_reducible refine And.intro True.intro ?_); conv => whnf) | ((with_reducible refine CallX.all ?_); refine CallW.of_ok (kC _) ?_; conv => whnf) | ((with_reducible refine CallX.all ?_); refine CallW.of_ok (kB _) ?_; conv => whnf) | ((with_reducible refine And.intro ?hh ?_); (case hh => exact condA); conv => whnf) | fail))
    all_goals first | (refine ⟨[], ?_, rfl, rfl, trivial, trivs⟩; simp only [renV, renL]; (first | done | rfl | (simp; done) | (simp; omega) | grind)) | (exfalso; omega)
theorem countR_ok (h : As.H) (hD : D ≤ 3) (ex : Bool) (hv : ckL D n a b = 0) : CallOk Try.prog 32 [lgV D ex n a b] h (.tup [.int .i64 (if bmR D n a b = 0 then 0 else ((bsR D n a b).length : Nat)), .int .i64 (if bmR D n a b = 0 then 23 else 0)]) h := by
  have l := (ckL_lg hv).2
  have hn := l.le
  have kC := fun h' => checkLogR_ok h' D ex n a b (by omega)
  rw [hv] at kC
  have kB := fun h' => bestR_ok h' hD ex l
  generalize bmR D n a b = m at *
  by_cases h0 : m = 0
  · rw [if_pos h0, if_pos h0]
    subst h0
    refine CallOk.run0 Try.func32 rfl rfl rfl rfl rfl (WpR.of_vc ?_)
    (conv => whnf); (repeat' (first | ((with_reducible refine ifb_mk (fun hc => ?_) (fun hc => ?_)) <;> ((try simp only [d9a, d9b, Bool.not_eq_true', Bool.not_eq_false', Int.not_lt, Int.not_le, ne_eq, d9c, beq_iff_eq, List.cons.injEq, and_true] at hc); (first | (exfalso; omega) | exact absurd True.intro hc | conv => whnf))) | ((with_reducible refine And.intro True.intro ?_); conv => whnf) | ((with_reducible refine CallX.all ?_); refine CallW.of_ok (kC _) ?_; conv => whnf) | ((with_reducible refine CallX.all ?_); refine CallW.of_ok (kB _) ?_; conv => whnf) | ((with_reducible refine And.intro ?hh ?_); (case hh => exact condA); conv => whnf) | fail))
    all_goals first | (refine ⟨[], ?_, rfl, rfl, trivial, trivs⟩; simp only [renV, renL]; (first | done | rfl | (simp; done) | (simp; omega) | grind)) | (exfalso; omega)
  · rw [if_neg h0, if_neg h0]
    refine CallOk.run0 Try.func32 rfl rfl rfl rfl rfl (WpR.of_vc ?_)
    (conv => whnf); (repeat' (first | ((with_reducible refine ifb_mk (fun hc => ?_) (fun hc => ?_)) <;> ((try simp only [d9a, d9b, Bool.not_eq_true', Bool.not_eq_false', Int.not_lt, Int.not_le, ne_eq, d9c, beq_iff_eq, List.cons.injEq, and_true] at hc); (first | (exfalso; omega) | exact absurd True.intro hc | conv => whnf))) | ((with_reducible refine And.intro True.intro ?_); conv => whnf) | ((with_reducible refine CallX.all ?_); refine CallW.of_ok (kC _) ?_; conv => whnf) | ((with_reducible refine CallX.all ?_); refine CallW.of_ok (kB _) ?_; conv => whnf) | ((with_reducible refine And.intro ?hh ?_); (case hh => exact condA); conv => whnf) | fail))
    all_goals first | (refine ⟨[], ?_, rfl, rfl, trivial, trivs⟩; simp only [renV, renL]; (first | done | rfl | (simp; done) | (simp; omega) | grind)) | (exfalso; omega)
def wnF (bn : Nat → Nat) (x : Nat) : Nat → Nat
  | 0 => 0
  | i + 1 => wnF bn x i + (if (bn i).testBit x = true then 0 else 1)
theorem wn_le (bn : Nat → Nat) (x : Nat) : ∀ i, wnF bn x i ≤ i
  | 0 => Nat.le_refl _
  | i + 1 => by
    have := wn_le bn x i
    unfold wnF
    split <;> omega
def kdR (w m : Nat) : Int := if w = m then 2 else if w = 0 then 0 else 1
set_option maxHeartbeats 8000000 in
theorem kindR_ok (h : As.H) (hD : D ≤ 3) (ex : Bool) (hv : ckL D n a b = 0) (x : Nat) (hx : x < n) : CallOk Try.prog 34 [lgV D ex n a b, .int .i64 x] h (.tup [.int .i64 (if bmR D n a b = 0 then 0 else kdR (wnF (pF (bsR D n a b).reverse) x (bsR D n a b).length) (bsR D n a b).length), .int .i64 (if bmR D n a b = 0 then 23 else 0)]) h := by
  have l := (ckL_lg hv).2
  have hn := l.le
  have kC := fun h' => checkLogR_ok h' D ex n a b (by omega)
  rw [hv] at kC
  have kB := fun h' => bestR_ok h' hD ex l
  have hbl := bs_len (D := D) l
  have hba := fun j hj => (bs_at (D := D) (n := n) (a := a) (b := b) (j := j) hj).1
  have h2n : 2 ^ n ≤ 4096 := Nat.pow_le_pow_right (n := 2) (by omega) hn
  generalize bmR D n a b = m at *
  generalize pF (bsR D n a b).reverse = bn at *
  generalize (bsR D n a b).length = N at *
  by_cases h0 : m = 0
  · rw [if_pos h0, if_pos h0]
    subst h0
    refine CallOk.run0 Try.func34 rfl rfl rfl rfl rfl (WpR.of_vc ?_)
    (conv => whnf); (repeat' (first | ((with_reducible refine ifb_mk (fun hc => ?_) (fun hc => ?_)) <;> ((try simp only [d9a, d9b, Bool.not_eq_true', Bool.not_eq_false', Int.not_lt, Int.not_le, ne_eq, d9c, beq_iff_eq, List.cons.injEq, and_true] at hc); (first | (exfalso; omega) | exact absurd True.intro hc | conv => whnf))) | ((with_reducible refine And.intro True.intro ?_); conv => whnf) | ((with_reducible refine CallX.all ?_); refine CallW.of_ok (kC _) ?_; conv => whnf) | ((with_reducible refine CallX.all ?_); refine CallW.of_ok (kB _) ?_; conv => whnf) | ((with_reducible refine And.intro ?hh ?_); (case hh => exact condA); conv => whnf) | fail))
    all_goals first | (refine ⟨[], ?_, rfl, rfl, trivial, trivs⟩; simp only [renV, renL]; (first | done | rfl | (simp; done) | (simp; omega) | grind)) | (exfalso; omega)
  rw [if_neg h0, if_neg h0]
  have eand : ∀ i, i < N → IntKind.i64.wrap (((BitVec.ofInt IntKind.i64.bits (((bn i : Nat) : Int).fdiv (2 ^ min (x : Int).toNat IntKind.i64.bits)) &&& BitVec.ofInt IntKind.i64.bits (1 : Int)).toNat : Nat) : Int) = if (bn i).testBit x = true then 1 else 0 := fun i hi => by
    have hg := hba i hi
    rw [shr64 (a := bn i) (s := x) (by omega)]
    have hsl : bn i >>> x < 65536 := Nat.lt_of_le_of_lt (by rw [Nat.shiftRight_eq_div_pow]; exact Nat.div_le_self _ _) (by omega : bn i < 65536)
    have := and64 (a := bn i >>> x) (b := 1) hsl (by decide)
    rw [show ((1 : Nat) : Int) = 1 from rfl] at this
    rw [this, and_one]
    split <;> rfl
  have hws : ∀ i, wnF bn x (i + 1) = wnF bn x i + (if (bn i).testBit x = true then 0 else 1) := fun i => rfl
  have hw0 : wnF bn x 0 = 0 := rfl
  have hwl := wn_le bn x
  generalize wnF bn x = W at *
  refine CallOk.run0 Try.func34 rfl rfl rfl rfl rfl (WpR.of_vc ?_)
  (conv => whnf); (repeat' (first | ((with_reducible refine ifb_mk (fun hc => ?_) (fun hc => ?_)) <;> ((try simp only [d9a, d9b, Bool.not_eq_true', Bool.not_eq_false', Int.not_lt, Int.not_le, ne_eq, d9c, beq_iff_eq, List.cons.injEq, and_true] at hc); (first | (exfalso; omega) | exact absurd True.intro hc | conv => whnf))) | ((with_reducible refine And.intro True.intro ?_); conv => whnf) | ((with_reducible refine CallX.all ?_); refine CallW.of_ok (kC _) ?_; conv => whnf) | ((with_reducible refine CallX.all ?_); refine CallW.of_ok (kB _) ?_; conv => whnf) | ((with_reducible refine And.intro ?hh ?_); (case hh => exact condA); conv => whnf) | fail))
  all_goals first | (exfalso; omega) | skip
  refine WpR.loopA (ι := Nat × Int) [] [1, 2, 6] [] [] 1 (fun p => [(8, .int .i64 p.2), (9, .int .i64 p.1)]) (fun p => []) (fun p => N - p.1) (fun p => p.1 ≤ N ∧ p.2 = (W p.1 : Nat)) ?_ ((0, 0)) (⟨Nat.zero_le _, by rw [hw0]; rfl⟩) [] Back.auto
  rintro ⟨i, w⟩ ⟨j1, j2⟩
  dsimp only at j1 j2
  refine WpR.of_vc ?_
  have hwi := hwl i
  by_cases hi : i < N
  · have ea := eand i hi
    have hwsi := hws i
    have y1 : InR (1 - IntKind.i64.wrap (((BitVec.ofInt IntKind.i64.bits (((bn i : Nat) : Int).fdiv (2 ^ min (x : Int).toNat IntKind.i64.bits)) &&& BitVec.ofInt IntKind.i64.bits (1 : Int)).toNat : Nat) : Int)) := by rw [ea]; unfold InR; split <;> omega
    have y2 : InR (w + (1 - IntKind.i64.wrap (((BitVec.ofInt IntKind.i64.bits (((bn i : Nat) : Int).fdiv (2 ^ min (x : Int).toNat IntKind.i64.bits)) &&& BitVec.ofInt IntKind.i64.bits (1 : Int)).toNat : Nat) : Int))) := by rw [ea]; unfold InR; split <;> omega
    have y3 : w + (1 - IntKind.i64.wrap (((BitVec.ofInt IntKind.i64.bits (((bn i : Nat) : Int).fdiv (2 ^ min (x : Int).toNat IntKind.i64.bits)) &&& BitVec.ofInt IntKind.i64.bits (1 : Int)).toNat : Nat) : Int)) = ((W (i + 1) : Nat) : Int) := by
      rw [ea, hwsi, j2]
      split <;> omega
    (conv => whnf); (repeat' (first | ((with_reducible refine ifb_mk (fun hc => ?_) (fun hc => ?_)) <;> ((try simp only [d9a, d9b, Bool.not_eq_true', Bool.not_eq_false', Int.not_lt, Int.not_le, ne_eq, d9c, beq_iff_eq, List.cons.injEq, and_true] at hc); (first | (exfalso; omega) | exact absurd True.intro hc | conv => whnf))) | ((with_reducible refine And.intro True.intro ?_); conv => whnf) | ((with_reducible refine grd_and ?_); refine And.intro (hi) ?_; conv => whnf) | ((with_reducible refine grd_and ?_); refine And.intro (y1) ?_; conv => whnf) | ((with_reducible refine grd_and ?_); refine And.intro (y2) ?_; conv => whnf) | ((with_reducible refine And.intro ?hh ?_); (case hh => exact condA); conv => whnf) | fail))
    all_goals first | (exfalso; omega) | exact ⟨(i + 1, _), [], by dsimp only; omega, ⟨by dsimp only; omega, y3⟩, Back.auto⟩
  · have ei : i = N := by omega
    subst ei
    subst j2
    unfold kdR
    by_cases h1 : W i = i
    · rw [if_pos h1]
      (conv => whnf); (repeat' (first | ((with_reducible refine ifb_mk (fun hc => ?_) (fun hc => ?_)) <;> ((try simp only [d9a, d9b, Bool.not_eq_true', Bool.not_eq_false', Int.not_lt, Int.not_le, ne_eq, d9c, beq_iff_eq, List.cons.injEq, and_true] at hc); (first | (exfalso; omega) | exact absurd True.intro hc | conv => whnf))) | ((with_reducible refine And.intro True.intro ?_); conv => whnf) | ((with_reducible refine grd_and ?_); refine And.intro (hi) ?_; conv => whnf) | ((with_reducible refine And.intro ?hh ?_); (case hh => exact condA); conv => whnf) | fail))
      all_goals first | (exfalso; omega) | (refine ⟨[], ?_, rfl, rfl, trivial, trivs⟩; simp only [renV, renL]; (first | done | rfl | (simp; done) | (simp; omega) | grind))
    · rw [if_neg h1]
      by_cases h2 : W i = 0
      · rw [if_pos h2]
        rw [h2] at h1 ⊢
        (conv => whnf); (repeat' (first | ((with_reducible refine ifb_mk (fun hc => ?_) (fun hc => ?_)) <;> ((try simp only [d9a, d9b, Bool.not_eq_true', Bool.not_eq_false', Int.not_lt, Int.not_le, ne_eq, d9c, beq_iff_eq, List.cons.injEq, and_true] at hc); (first | (exfalso; omega) | exact absurd True.intro hc | conv => whnf))) | ((with_reducible refine And.intro True.intro ?_); conv => whnf) | ((with_reducible refine grd_and ?_); refine And.intro (hi) ?_; conv => whnf) | ((with_reducible refine And.intro ?hh ?_); (case hh => exact condA); conv => whnf) | fail))
        all_goals first | (exfalso; omega) | (refine ⟨[], ?_, rfl, rfl, trivial, trivs⟩; simp only [renV, renL]; (first | done | rfl | (simp; done) | (simp; omega) | grind))
      · rw [if_neg h2]
        have hil : (match ilt 1 ((W i : Nat) : Int) with | true => (1 : Int) | false => ((W i : Nat) : Int)) = 1 := by
          rw [ilt_eq]
          by_cases h : (1 : Int) < ((W i : Nat) : Int)
          · rw [decide_eq_true h]
          · rw [decide_eq_false h]
            show ((W i : Nat) : Int) = 1
            omega
        (conv => whnf); (repeat' (first | ((with_reducible refine ifb_mk (fun hc => ?_) (fun hc => ?_)) <;> ((try simp only [d9a, d9b, Bool.not_eq_true', Bool.not_eq_false', Int.not_lt, Int.not_le, ne_eq, d9c, beq_iff_eq, List.cons.injEq, and_true] at hc); (first | (exfalso; omega) | exact absurd True.intro hc | conv => whnf))) | ((with_reducible refine And.intro True.intro ?_); conv => whnf) | ((with_reducible refine grd_and ?_); refine And.intro (hi) ?_; conv => whnf) | ((with_reducible refine And.intro ?hh ?_); (case hh => exact condA); conv => whnf) | fail))
        all_goals first | (exfalso; omega) | (refine ⟨[], ?_, rfl, rfl, trivial, trivs⟩; simp only [renV, renL]; (first | done | rfl | (simp; done) | (simp; omega) | grind)) | (refine ⟨[], ?_, rfl, rfl, trivial, trivs⟩; simp only [renV, renL]; rw [hil])
end
end Go.Proofs.K
namespace Go.Proofs.K
open Go.As
set_option maxRecDepth 20000
def onC (n : Nat) (a b : Nat → Int) (c : C4) : Nat := onN (psF (f4 c) a b) n
theorem bq_take {P : List Int} {s : Nat → Nat} {σ : Int → Nat} {m : Nat} (hs : ∀ j x, P[j]? = some x → s j = σ x ∧ ((pF P j : Nat) : Int) = x) : ∀ i, i ≤ P.length → bqF s (pF P) m i = ((P.take i).filter fun x => decide (σ x = m)).reverse
  | 0, _ => by rw [List.take_zero]; rfl
  | i + 1, h => by
    have ih := bq_take (m := m) hs i (by omega)
    have hx : P[i]? = some P[i] := List.getElem?_eq_getElem (by omega)
    obtain ⟨h1, h2⟩ := hs i _ hx
    unfold bqF
    rw [List.take_add_one, hx, ih, List.filter_append, h1, h2]
    by_cases hm : σ P[i] = m
    · rw [if_pos hm, Option.toList_some, List.filter_cons_of_pos (by rw [decide_eq_true hm]), List.reverse_append]; rfl
    · rw [if_neg hm, Option.toList_some, List.filter_cons_of_neg (by rw [decide_eq_false hm]; decide)]; simp
theorem wn_take {Q : List Int} {x : Nat} : ∀ i, i ≤ Q.length → wnF (pF Q) x i = (Q.take i).countP fun y => !y.toNat.testBit x
  | 0, _ => by rw [List.take_zero]; rfl
  | i + 1, h => by
    have ih := wn_take (Q := Q) (x := x) i (by omega)
    have hx : Q[i]? = some Q[i] := List.getElem?_eq_getElem (by omega)
    have e : pF Q i = Q[i].toNat := by unfold pF gL; rw [List.getD_eq_getElem?_getD, hx]; rfl
    unfold wnF
    rw [List.take_add_one, hx, ih, List.countP_append, e, Option.toList_some, List.countP_singleton]
    cases Q[i].toNat.testBit x <;> rfl
theorem mx_le {s : Nat → Nat} : ∀ n j, j < n → s j ≤ mxF s n
  | n + 1, j, h => by
    show s j ≤ max (mxF s n) (s n)
    by_cases e : j = n
    · subst e; omega
    · have := mx_le (s := s) n j (by omega); omega
theorem mx_some {s : Nat → Nat} : ∀ n, 0 < n → ∃ j, j < n ∧ s j = mxF s n
  | 0, h => absurd h (Nat.lt_irrefl _)
  | n + 1, _ => by
    show ∃ j, j < n + 1 ∧ s j = max (mxF s n) (s n)
    by_cases e : mxF s n ≤ s n
    · exact ⟨n, by omega, by omega⟩
    · by_cases h0 : n = 0
      · subst h0
        have : mxF s 0 = 0 := rfl
        omega
      · obtain ⟨j, h1, h2⟩ := mx_some (s := s) n (by omega)
        exact ⟨j, by omega, by omega⟩
section
variable {D n : Nat} {a b : Nat → Int}
theorem onG_eq {g : Nat} (hD : D ≤ 3) (hg : cnF g.testBit n = D + 1) : onG D n a b g = ((onC n a b (c4 (crG n a b g)) : Nat) : Int) := by
  unfold onG onC
  have e : pmF (D + 1) (crG n a b g) a b = psF (f4 (c4 (crG n a b g))) a b := by
    funext i
    rw [psF_congr (p := f4 (c4 (crG n a b g))) (q := crG n a b g) fun k hk => f4_at hk]
    unfold pmF psF
    rw [plc_z (p := crG n a b g) (m := D + 1) (by omega) fun k h1 _ => th_z (by omega)]
  rw [e]
theorem pq_mem : ∀ N, ∀ x ∈ pqL D n a b N, ∃ g, g < N ∧ cnF g.testBit n = D + 1 ∧ wkG n a b g = true ∧ x = onG D n a b g
  | 0, x, h => by cases h
  | N + 1, x, h => by
    unfold pqL at h
    split at h
    · rename_i hc
      rcases List.mem_cons.1 h with rfl | h
      · exact ⟨N, by omega, hc.1, hc.2.1, rfl⟩
      · obtain ⟨g, h1, h2⟩ := pq_mem N x h; exact ⟨g, by omega, h2⟩
    · obtain ⟨g, h1, h2⟩ := pq_mem N x h; exact ⟨g, by omega, h2⟩
theorem pq_all : ∀ N g, g < N → cnF g.testBit n = D + 1 → wkG n a b g = true → onG D n a b g ∈ pqL D n a b N
  | 0, g, h, _, _ => absurd h (Nat.not_lt_zero _)
  | N + 1, g, h, h1, h2 => by
    unfold pqL
    by_cases e : g = N
    · subst e
      by_cases hm : onG D n a b g ∈ pqL D n a b g
      · rw [if_neg (fun hc => hc.2.2 hm)]; exact hm
      · rw [if_pos ⟨h1, h2, hm⟩]; exact List.mem_cons_self
    · have := pq_all N g (by omega) h1 h2
      split
      · exact List.mem_cons_of_mem _ this
      · exact this
theorem pq_nodup : ∀ N, (pqL D n a b N).Nodup
  | 0 => List.nodup_nil
  | N + 1 => by
    unfold pqL
    split
    · rename_i h; exact List.nodup_cons.2 ⟨h.2.2, pq_nodup N⟩
    · exact pq_nodup N
theorem onC_bit {c : C4} {i : Nat} (hi : i < n) : (onC n a b c).testBit i = psF (f4 c) a b i := by
  unfold onC
  rw [onN_bit, decide_eq_true hi, Bool.true_and]
theorem onC_cn {c : C4} : cnF (onC n a b c).testBit n = cnC n a b c := cnF_congr n fun i hi => onC_bit hi
theorem onC_inj (hD : D ≤ 3) (l : Lg n a b) {c c' : C4} (hc : c ∈ mpS D n a b (2 ^ n)) (hc' : c' ∈ mpS D n a b (2 ^ n)) (h : onC n a b c = onC n a b c') : c = c' := by
  obtain ⟨z1, g1⟩ := (mpS_iff hD l).1 hc
  obtain ⟨z2, _⟩ := (mpS_iff hD l).1 hc'
  have hb : ∀ i, i < n → psF (f4 c) a b i = psF (f4 c') a b i := fun i hi => by rw [← onC_bit hi, ← onC_bit hi, h]
  have h1 := ps_one hD l z1 z2 (by
    rw [cnF_congr (q := psF (f4 c) a b) n fun i hi => by rw [← hb i hi, Bool.and_self]]
    exact g1)
  rw [← c4_f4 (p := f4 c) (c := c') h1]
  rfl
theorem pq_perm (hD : D ≤ 3) (l : Lg n a b) : (pqL D n a b (2 ^ n)).Perm ((mpS D n a b (2 ^ n)).map fun c => ((onC n a b c : Nat) : Int)) := by
  have hinj : ((mpS D n a b (2 ^ n)).map fun c => ((onC n a b c : Nat) : Int)).Nodup := by
    rw [List.Nodup, List.pairwise_map]
    refine (mpS_nodup D n a b (2 ^ n)).imp_of_mem fun {x y} hx hy hne he => hne ?_
    exact onC_inj hD l hx hy (by omega)
  rw [List.perm_ext_iff_of_nodup (pq_nodup _) hinj]
  intro x
  constructor
  · intro h
    obtain ⟨g, h1, h2, h3, rfl⟩ := pq_mem _ x h
    exact List.mem_map.2 ⟨_, mpS_all _ g h1 h2 h3, (onG_eq hD h2).symm⟩
  · intro h
    obtain ⟨c, hc, rfl⟩ := List.mem_map.1 h
    obtain ⟨g, h1, h2, h3, rfl⟩ := mpS_mem _ hc
    have := pq_all (D := D) (a := a) (b := b) _ g h1 h2 h3
    rwa [onG_eq hD h2] at this
theorem defs_all (hD : D ≤ 3) (l : Lg n a b) : bmR D n a b = mxC (cnC n a b) (prQ (mpS D n a b (2 ^ n))) ∧ (bsR D n a b).length = (bstL (cnC n a b) (prQ (mpS D n a b (2 ^ n)))).length ∧
    ∀ x, x < n → wnF (pF (bsR D n a b).reverse) x (bsR D n a b).length = wrN a b x (bstL (cnC n a b) (prQ (mpS D n a b (2 ^ n)))) := by
  have hp := pq_perm hD l
  have hlen := hp.length_eq
  rw [List.length_map] at hlen
  have hat : ∀ j x, (pqL D n a b (2 ^ n)).reverse[j]? = some x → cnF (pF (pqL D n a b (2 ^ n)).reverse j).testBit n = cnF x.toNat.testBit n ∧ ((pF (pqL D n a b (2 ^ n)).reverse j : Nat) : Int) = x := fun j x hx => by
    obtain ⟨k, hk, _⟩ := pq_nat _ x (List.mem_reverse.1 (List.mem_of_getElem? hx))
    have e : pF (pqL D n a b (2 ^ n)).reverse j = x.toNat := by unfold pF gL; rw [List.getD_eq_getElem?_getD, hx]; rfl
    rw [e]
    exact ⟨rfl, by omega⟩
  have hM : bmR D n a b = mxC (cnC n a b) (prQ (mpS D n a b (2 ^ n))) := by
    unfold bmR
    by_cases h0 : mpS D n a b (2 ^ n) = []
    · rw [h0] at hlen ⊢
      rw [hlen]; rfl
    · have hpos : 0 < (pqL D n a b (2 ^ n)).length := by rw [hlen]; exact List.length_pos_iff.2 h0
      obtain ⟨j, hj, hj2⟩ := mx_some (s := fun j => cnF (pF (pqL D n a b (2 ^ n)).reverse j).testBit n) _ hpos
      obtain ⟨x, hx⟩ : ∃ x, (pqL D n a b (2 ^ n)).reverse[j]? = some x := ⟨_, List.getElem?_eq_getElem (by rw [List.length_reverse]; exact hj)⟩
      obtain ⟨c, hc, hcx⟩ := List.mem_map.1 (hp.mem_iff.1 (List.mem_reverse.1 (List.mem_of_getElem? hx)))
      have h1 := mx_ge (cn := cnC n a b) hc
      have h2 := (hat j x hx).1
      obtain ⟨c', hc', h3⟩ := mx_at (cn := cnC n a b) h0
      have hm' := List.mem_reverse.2 (hp.mem_iff.2 (List.mem_map_of_mem (f := fun c => ((onC n a b c : Nat) : Int)) hc'))
      obtain ⟨j', hj', hx'⟩ := List.getElem_of_mem hm'
      have hxe := List.getElem?_eq_getElem hj'
      rw [hx'] at hxe
      rw [List.length_reverse] at hj'
      have h4 := mx_le (s := fun j => cnF (pF (pqL D n a b (2 ^ n)).reverse j).testBit n) _ j' hj'
      have h5 := (hat j' _ hxe).1
      have h4 : cnF (pF (pqL D n a b (2 ^ n)).reverse j').testBit n ≤ _ := h4
      have hj2 : cnF (pF (pqL D n a b (2 ^ n)).reverse j).testBit n = _ := hj2
      rw [h5, Int.toNat_natCast, onC_cn] at h4
      rw [h2, ← hcx, Int.toNat_natCast, onC_cn] at hj2
      omega
  have hB : (bsR D n a b).reverse = (pqL D n a b (2 ^ n)).reverse.filter fun x => decide (cnF x.toNat.testBit n = bmR D n a b) := by
    unfold bsR
    rw [bq_take (σ := fun x => cnF x.toNat.testBit n) hat _ (by rw [List.length_reverse]; exact Nat.le_refl _), List.reverse_reverse, List.take_of_length_le (by rw [List.length_reverse]; exact Nat.le_refl _)]
  have hlenB : (bsR D n a b).length = (bsR D n a b).reverse.length := (List.length_reverse).symm
  refine ⟨hM, ?_, fun x hx => ?_⟩
  · rw [hlenB, hB, ← List.countP_eq_length_filter, List.countP_reverse, hp.countP_eq, List.countP_map, bst_len, hM]
    refine List.countP_congr fun c _ => ?_
    show decide (cnF (((onC n a b c : Nat) : Int)).toNat.testBit n = _) = true ↔ _
    rw [Int.toNat_natCast, onC_cn]
  · rw [hlenB, wn_take _ (Nat.le_refl _), List.take_of_length_le (Nat.le_refl _), hB, List.countP_filter, List.countP_reverse, hp.countP_eq, List.countP_map, wr_len, hM]
    refine List.countP_congr fun c _ => ?_
    show (!(((onC n a b c : Nat) : Int)).toNat.testBit x && decide (cnF (((onC n a b c : Nat) : Int)).toNat.testBit n = _)) = true ↔ _
    rw [Int.toNat_natCast, onC_cn, onC_bit hx]
theorem kd_eq {w m : Nat} (hm : 0 < m) : kdF w m = kdR w m := by
  unfold kdF kdR
  by_cases h0 : w = 0
  · rw [if_pos h0, if_neg (by omega), if_pos h0]
  · rw [if_neg h0, if_neg h0]
end
end Go.Proofs.K
namespace Go.Proofs.K
open Go.As
set_option maxRecDepth 20000
theorem mostP_err (h : As.H) (D : Int) (ex : Bool) (n : Nat) (a b : Nat → Int) (hn : n ≤ 9223372036854775807) (he : ckL D n a b ≠ 0) : CallOk Try.prog 29 [lgV D ex n a b] h (.tup [.int .i64 0, .int .i64 (ckL D n a b)]) h := by
  have kE := fun h' => sheetFor_err h' D ex n a b hn he
  generalize ckL D n a b = e at *
  refine CallOk.run0 Try.func29 rfl rfl rfl rfl rfl (WpR.of_vc ?_)
  (conv => whnf); (repeat' (first | ((with_reducible refine ifb_mk (fun hc => ?_) (fun hc => ?_)) <;> ((try simp only [d9a, d9b, Bool.not_eq_true', Bool.not_eq_false', Int.not_lt, Int.not_le, ne_eq, d9c, beq_iff_eq, List.cons.injEq, and_true] at hc); (first | (exfalso; omega) | exact absurd True.intro hc | conv => whnf))) | ((with_reducible refine And.intro True.intro ?_); conv => whnf) | ((with_reducible refine CallX.all (f := 70) ?_); refine CallW.inline Try.func70 rfl rfl (Nat.le_of_ble_eq_true rfl) (WpR.of_vc ?_); conv => whnf) | ((with_reducible refine CallX.all ?_); refine CallW.of_ok (kE _) ?_; conv => whnf) | ((with_reducible refine And.intro ?hh ?_); (case hh => exact condA); conv => whnf) | fail))
  all_goals first | (refine ⟨[], ?_, rfl, rfl, trivial, trivs⟩; simp only [renV, renL]; (first | done | rfl | (simp; done) | (simp; omega) | grind)) | exact absurd (by assumption) he | (exfalso; omega)
theorem countP_err (h : As.H) (D : Int) (ex : Bool) (n : Nat) (a b : Nat → Int) (hn : n ≤ 9223372036854775807) (he : ckL D n a b ≠ 0) : CallOk Try.prog 31 [lgV D ex n a b] h (.tup [.int .i64 0, .int .i64 (ckL D n a b)]) h := by
  have kE := fun h' => sheetFor_err h' D ex n a b hn he
  generalize ckL D n a b = e at *
  refine CallOk.run0 Try.func31 rfl rfl rfl rfl rfl (WpR.of_vc ?_)
  (conv => whnf); (repeat' (first | ((with_reducible refine ifb_mk (fun hc => ?_) (fun hc => ?_)) <;> ((try simp only [d9a, d9b, Bool.not_eq_true', Bool.not_eq_false', Int.not_lt, Int.not_le, ne_eq, d9c, beq_iff_eq, List.cons.injEq, and_true] at hc); (first | (exfalso; omega) | exact absurd True.intro hc | conv => whnf))) | ((with_reducible refine And.intro True.intro ?_); conv => whnf) | ((with_reducible refine CallX.all (f := 70) ?_); refine CallW.inline Try.func70 rfl rfl (Nat.le_of_ble_eq_true rfl) (WpR.of_vc ?_); conv => whnf) | ((with_reducible refine CallX.all ?_); refine CallW.of_ok (kE _) ?_; conv => whnf) | ((with_reducible refine And.intro ?hh ?_); (case hh => exact condA); conv => whnf) | fail))
  all_goals first | (refine ⟨[], ?_, rfl, rfl, trivial, trivs⟩; simp only [renV, renL]; (first | done | rfl | (simp; done) | (simp; omega) | grind)) | exact absurd (by assumption) he | (exfalso; omega)
theorem pathP_err (h : As.H) (D : Int) (ex : Bool) (n : Nat) (a b : Nat → Int) (hn : n ≤ 9223372036854775807) (he : ckL D n a b ≠ 0) : CallOk Try.prog 35 [lgV D ex n a b] h (.tup [.nils, .int .i64 (ckL D n a b)]) h := by
  have kE := fun h' => sheetFor_err h' D ex n a b hn he
  generalize ckL D n a b = e at *
  refine CallOk.run0 Try.func35 rfl rfl rfl rfl rfl (WpR.of_vc ?_)
  (conv => whnf); (repeat' (first | ((with_reducible refine ifb_mk (fun hc => ?_) (fun hc => ?_)) <;> ((try simp only [d9a, d9b, Bool.not_eq_true', Bool.not_eq_false', Int.not_lt, Int.not_le, ne_eq, d9c, beq_iff_eq, List.cons.injEq, and_true] at hc); (first | (exfalso; omega) | exact absurd True.intro hc | conv => whnf))) | ((with_reducible refine And.intro True.intro ?_); conv => whnf) | ((with_reducible refine CallX.all (f := 70) ?_); refine CallW.inline Try.func70 rfl rfl (Nat.le_of_ble_eq_true rfl) (WpR.of_vc ?_); conv => whnf) | ((with_reducible refine CallX.all ?_); refine CallW.of_ok (kE _) ?_; conv => whnf) | ((with_reducible refine And.intro ?hh ?_); (case hh => exact condA); conv => whnf) | fail))
  all_goals first | (refine ⟨[], ?_, rfl, rfl, trivial, trivs⟩; simp only [renV, renL]; (first | done | rfl | (simp; done) | (simp; omega) | grind)) | exact absurd (by assumption) he | (exfalso; omega)
theorem kindP_err (h : As.H) (D : Int) (ex : Bool) (n : Nat) (a b : Nat → Int) (hn : n ≤ 9223372036854775807) (he : ckL D n a b ≠ 0) (x : Int) : CallOk Try.prog 33 [lgV D ex n a b, .int .i64 x] h (.tup [.int .i64 0, .int .i64 (ckL D n a b)]) h := by
  have kE := fun h' => sheetFor_err h' D ex n a b hn he
  generalize ckL D n a b = e at *
  refine CallOk.run0 Try.func33 rfl rfl rfl rfl rfl (WpR.of_vc ?_)
  (conv => whnf); (repeat' (first | ((with_reducible refine ifb_mk (fun hc => ?_) (fun hc => ?_)) <;> ((try simp only [d9a, d9b, Bool.not_eq_true', Bool.not_eq_false', Int.not_lt, Int.not_le, ne_eq, d9c, beq_iff_eq, List.cons.injEq, and_true] at hc); (first | (exfalso; omega) | exact absurd True.intro hc | conv => whnf))) | ((with_reducible refine And.intro True.intro ?_); conv => whnf) | ((with_reducible refine CallX.all (f := 70) ?_); refine CallW.inline Try.func70 rfl rfl (Nat.le_of_ble_eq_true rfl) (WpR.of_vc ?_); conv => whnf) | ((with_reducible refine CallX.all ?_); refine CallW.of_ok (kE _) ?_; conv => whnf) | ((with_reducible refine And.intro ?hh ?_); (case hh => exact condA); conv => whnf) | fail))
  all_goals first | (refine ⟨[], ?_, rfl, rfl, trivial, trivs⟩; simp only [renV, renL]; (first | done | rfl | (simp; done) | (simp; omega) | grind)) | exact absurd (by assumption) he | (exfalso; omega)
theorem kindP_arg (h : As.H) (D : Int) (ex : Bool) (n : Nat) (a b : Nat → Int) (hv : ckL D n a b = 0) (x : Int) (hx : ¬ (0 ≤ x ∧ x < n)) : CallOk Try.prog 33 [lgV D ex n a b, .int .i64 x] h (.tup [.int .i64 0, .int .i64 2]) h := by
  have hn := (ckL_lg hv).2.le
  have kS : ∀ (h' : As.H) (s : Nat), s = h'.n + 0 → CallOk Try.prog 59 [lgV D ex n a b] h' (.tup [.ptr s 0, .int .i64 0]) (addBs h' [shB D (.rsl ex 2 n (lkG a b)) fun _ => false]) := fun h' s e => by subst e; exact sheetFor_new h' D ex n a b (by omega) hv
  have kW := fun h' sv hs => within1_ok h' 0 ((n : Int) - 1) x sv hs
  rw [decide_eq_false (by omega)] at kW
  refine CallOk.run0 Try.func33 rfl rfl rfl rfl rfl (WpR.of_vc ?_)
  (conv => whnf); (repeat' (first | ((with_reducible refine ifb_mk (fun hc => ?_) (fun hc => ?_)) <;> ((try simp only [d9a, d9b, Bool.not_eq_true', Bool.not_eq_false', Int.not_lt, Int.not_le, ne_eq, d9c, beq_iff_eq, List.cons.injEq, and_true] at hc); (first | (exfalso; omega) | exact absurd True.intro hc | conv => whnf))) | ((with_reducible refine And.intro True.intro ?_); conv => whnf) | ((with_reducible refine CallX.all (f := 70) ?_); refine CallW.inline Try.func70 rfl rfl (Nat.le_of_ble_eq_true rfl) (WpR.of_vc ?_); conv => whnf) | ((with_reducible refine CallX.all ?_); refine CallW.of_ok (kS _ 3 (by rfl)) ?_; conv => whnf) | ((with_reducible refine CallX.all ?_); refine CallW.of_ok (kW _ _ (SlC.own rfl)) ?_; conv => whnf) | ((with_reducible refine And.intro ?hh ?_); (case hh => exact condA); conv => whnf) | fail))
  all_goals first | (refine ⟨[], ?_, rfl, rfl, trivial, trivs⟩; simp only [renV, renL]; (first | done | rfl | (simp; done) | (simp; omega) | grind)) | (exfalso; omega)
theorem mostR_err (h : As.H) (D : Int) (ex : Bool) (n : Nat) (a b : Nat → Int) (hn : n ≤ 9223372036854775807) (he : ckL D n a b ≠ 0) : CallOk Try.prog 30 [lgV D ex n a b] h (.tup [.int .i64 0, .int .i64 (ckL D n a b)]) h := by
  have kC := fun h' => checkLogR_ok h' D ex n a b hn
  generalize ckL D n a b = e at *
  refine CallOk.run0 Try.func30 rfl rfl rfl rfl rfl (WpR.of_vc ?_)
  (conv => whnf); (repeat' (first | ((with_reducible refine ifb_mk (fun hc => ?_) (fun hc => ?_)) <;> ((try simp only [d9a, d9b, Bool.not_eq_true', Bool.not_eq_false', Int.not_lt, Int.not_le, ne_eq, d9c, beq_iff_eq, List.cons.injEq, and_true] at hc); (first | (exfalso; omega) | exact absurd True.intro hc | conv => whnf))) | ((with_reducible refine And.intro True.intro ?_); conv => whnf) | ((with_reducible refine CallX.all ?_); refine CallW.of_ok (kC _) ?_; conv => whnf) | ((with_reducible refine And.intro ?hh ?_); (case hh => exact condA); conv => whnf) | fail))
  all_goals first | (refine ⟨[], ?_, rfl, rfl, trivial, trivs⟩; simp only [renV, renL]; (first | done | rfl | (simp; done) | (simp; omega) | grind)) | exact absurd (by assumption) he | (exfalso; omega)
theorem countR_err (h : As.H) (D : Int) (ex : Bool) (n : Nat) (a b : Nat → Int) (hn : n ≤ 9223372036854775807) (he : ckL D n a b ≠ 0) : CallOk Try.prog 32 [lgV D ex n a b] h (.tup [.int .i64 0, .int .i64 (ckL D n a b)]) h := by
  have kC := fun h' => checkLogR_ok h' D ex n a b hn
  generalize ckL D n a b = e at *
  refine CallOk.run0 Try.func32 rfl rfl rfl rfl rfl (WpR.of_vc ?_)
  (conv => whnf); (repeat' (first | ((with_reducible refine ifb_mk (fun hc => ?_) (fun hc => ?_)) <;> ((try simp only [d9a, d9b, Bool.not_eq_true', Bool.not_eq_false', Int.not_lt, Int.not_le, ne_eq, d9c, beq_iff_eq, List.cons.injEq, and_true] at hc); (first | (exfalso; omega) | exact absurd True.intro hc | conv => whnf))) | ((with_reducible refine And.intro True.intro ?_); conv => whnf) | ((with_reducible refine CallX.all ?_); refine CallW.of_ok (kC _) ?_; conv => whnf) | ((with_reducible refine And.intro ?hh ?_); (case hh => exact condA); conv => whnf) | fail))
  all_goals first | (refine ⟨[], ?_, rfl, rfl, trivial, trivs⟩; simp only [renV, renL]; (first | done | rfl | (simp; done) | (simp; omega) | grind)) | exact absurd (by assumption) he | (exfalso; omega)
theorem kindR_err (h : As.H) (D : Int) (ex : Bool) (n : Nat) (a b : Nat → Int) (hn : n ≤ 9223372036854775807) (he : ckL D n a b ≠ 0) (x : Int) : CallOk Try.prog 34 [lgV D ex n a b, .int .i64 x] h (.tup [.int .i64 0, .int .i64 (ckL D n a b)]) h := by
  have kC := fun h' => checkLogR_ok h' D ex n a b hn
  generalize ckL D n a b = e at *
  refine CallOk.run0 Try.func34 rfl rfl rfl rfl rfl (WpR.of_vc ?_)
  (conv => whnf); (repeat' (first | ((with_reducible refine ifb_mk (fun hc => ?_) (fun hc => ?_)) <;> ((try simp only [d9a, d9b, Bool.not_eq_true', Bool.not_eq_false', Int.not_lt, Int.not_le, ne_eq, d9c, beq_iff_eq, List.cons.injEq, and_true] at hc); (first | (exfalso; omega) | exact absurd True.intro hc | conv => whnf))) | ((with_reducible refine And.intro True.intro ?_); conv => whnf) | ((with_reducible refine CallX.all ?_); refine CallW.of_ok (kC _) ?_; conv => whnf) | ((with_reducible refine And.intro ?hh ?_); (case hh => exact condA); conv => whnf) | fail))
  all_goals first | (refine ⟨[], ?_, rfl, rfl, trivial, trivs⟩; simp only [renV, renL]; (first | done | rfl | (simp; done) | (simp; omega) | grind)) | exact absurd (by assumption) he | (exfalso; omega)
theorem kindR_arg (h : As.H) (D : Int) (ex : Bool) (n : Nat) (a b : Nat → Int) (hv : ckL D n a b = 0) (x : Int) (hx : ¬ (0 ≤ x ∧ x < n)) : CallOk Try.prog 34 [lgV D ex n a b, .int .i64 x] h (.tup [.int .i64 0, .int .i64 2]) h := by
  have hn := (ckL_lg hv).2.le
  have kC := fun h' => checkLogR_ok h' D ex n a b (by omega)
  rw [hv] at kC
  refine CallOk.run0 Try.func34 rfl rfl rfl rfl rfl (WpR.of_vc ?_)
  (conv => whnf); (repeat' (first | ((with_reducible refine ifb_mk (fun hc => ?_) (fun hc => ?_)) <;> ((try simp only [d9a, d9b, Bool.not_eq_true', Bool.not_eq_false', Int.not_lt, Int.not_le, ne_eq, d9c, beq_iff_eq, List.cons.injEq, and_true] at hc); (first | (exfalso; omega) | exact absurd True.intro hc | conv => whnf))) | ((with_reducible refine And.intro True.intro ?_); conv => whnf) | ((with_reducible refine CallX.all ?_); refine CallW.of_ok (kC _) ?_; conv => whnf) | ((with_reducible refine And.intro ?hh ?_); (case hh => exact condA); conv => whnf) | fail))
  all_goals first | (refine ⟨[], ?_, rfl, rfl, trivial, trivs⟩; simp only [renV, renL]; (first | done | rfl | (simp; done) | (simp; omega) | grind)) | (exfalso; omega)
end Go.Proofs.K
namespace Go.Proofs.K
open Go.As
set_option maxRecDepth 20000
theorem best_facts {d n : Nat} {a b : Nat → Int} (hd : d ≤ 3) (hv : ckL d n a b = 0) :
    mpS d n a b (2 ^ n) = [] ∧ bmR d n a b = 0 ∨ ∃ c q, mpS d n a b (2 ^ n) = c :: q ∧ bmR d n a b ≠ 0 ∧ (∀ h, CallOk Try.prog 29 [lgV d false n a b] h (.tup [.int .i64 (bmR d n a b : Nat), .int .i64 0]) h) ∧
      (∀ h, CallOk Try.prog 31 [lgV d false n a b] h (.tup [.int .i64 ((bsR d n a b).length : Nat), .int .i64 0]) h) ∧
      (∀ x : Nat, x < n → ∀ h, CallOk Try.prog 33 [lgV d false n a b, .int .i64 x] h (.tup [.int .i64 (kdR (wnF (pF (bsR d n a b).reverse) x (bsR d n a b).length) (bsR d n a b).length), .int .i64 0]) h) ∧
      ∃ g : Nat → Int, (∀ h, CallOk Try.prog 35 [lgV d false n a b] h (.tup [.rsl false 1 (d + 1) (iG g), .int .i64 0]) h) ∧
        (∀ h, CallOk Try.prog 26 [lgV d false n a b, .rsl false 1 (d + 1) (iG g)] h (.tup [.int .i64 (bmR d n a b : Nat), .int .i64 0]) h) := by
  have l := (ckL_lg hv).2
  have hn := l.le
  obtain ⟨hM, hL, hW⟩ := defs_all hd l
  cases hF : mpS d n a b (2 ^ n) with
  | nil =>
    rw [hF] at hM
    exact .inl ⟨rfl, hM⟩
  | cons c r =>
    have kM := fun h => mostP_ok h d hd false n a b hv
    have kC := fun h => countP_ok h d hd false n a b hv
    have kK := fun x hx h => kindP_ok h d hd false n a b hv x hx hF
    rw [hF] at hM hL hW kM kC
    dsimp only at kM kC
    rw [← hM] at kM
    rw [← hL] at kC
    obtain ⟨g, g1, g2, g3, g4, g5, kP⟩ := path_facts d hd false n a b hv hF
    rw [← hM] at g3 g4
    have hq : ckQ d n a b (d + 1) g = 0 := by
      unfold ckQ
      rw [if_pos hv, if_pos (by omega), if_pos]
      refine allF_t fun i hi => decide_eq_true ?_
      have := g1 i (by omega)
      omega
    have hcn : cpN d n a b (d + 1) g = (bmR d n a b : Nat) := by
      unfold cpN
      rw [if_pos hq, ← g3]
      congr 1
      refine cnF_congr n fun i _ => ?_
      rw [psF_congr fun k hk => ?_]
      unfold cut
      by_cases h : k < d + 1
      · rw [if_pos h]
      · rw [if_neg h, g2 k (by omega)]
    have kR := fun h => checkPathR_ok h d false false n a b (by omega) (d + 1) (by omega) g
    rw [hq, hcn] at kR
    have hpos : 0 < (bsR d n a b).length := by
      rw [hL]
      obtain ⟨y, hy, hym⟩ := mx_at (cn := cnC n a b) (q := c :: r) (by simp)
      rw [bst_len]
      exact List.countP_pos_iff.2 ⟨y, hy, decide_eq_true hym⟩
    refine .inr ⟨c, r, rfl, by omega, kM, kC, fun x hx h => ?_, g, kP, kR⟩
    have k := kK x hx h
    rw [← hL, ← hW x hx, kd_eq hpos] at k
    exact k
set_option maxHeartbeats 16000000 in
theorem lawMosts (h : As.H) (D : Int) (n : Nat) (a b : Nat → Int) (hn : n ≤ 9223372036854775807) (x : Int) :
    CallOk Try.prog 5 [lgV D false n a b, .int .i64 x] h (.bool true) h := by
  have kWk := fun h : As.H => wwhole.everywhere rfl h
  by_cases hg : 20 < n
  · refine CallOk.run0 Try.func5 rfl rfl rfl rfl rfl (WpR.of_vc ?_)
    (conv => whnf); (repeat' (first | ((with_reducible refine ifb_mk (fun hc => ?_) (fun hc => ?_)) <;> ((try simp only [d9a, d9b, Bool.not_eq_true', Bool.not_eq_false', Int.not_lt, Int.not_le, ne_eq, d9c, beq_iff_eq, List.cons.injEq, and_true] at hc); (first | (exfalso; omega) | exact absurd True.intro hc | conv => whnf))) | ((with_reducible refine And.intro True.intro ?_); conv => whnf) | ((with_reducible refine CallX.all ?_); refine CallW.of_ok (kWk _) ?_; conv => whnf) | ((with_reducible refine CallX.all (f := 22) ?_); refine CallW.inline Try.func22 rfl rfl (Nat.le_of_ble_eq_true rfl) (WpR.of_vc ?_); conv => whnf) | ((with_reducible refine And.intro ?hh ?_); (case hh => exact condA); conv => whnf) | fail))
    all_goals first | (refine ⟨[], ?_, rfl, rfl, trivial, trivs⟩; simp only [renV, renL]; (first | done | rfl | (simp; done) | (simp; omega) | grind)) | (exfalso; omega)
  by_cases hv : ckL D n a b = 0
  rotate_left
  · have k1 := fun h => mostP_err h D false n a b hn hv
    have k2 := fun h => mostR_err h D false n a b hn hv
    have k3 := fun h => countP_err h D false n a b hn hv
    have k4 := fun h => countR_err h D false n a b hn hv
    have k5 := fun h => kindP_err h D false n a b hn hv x
    have k6 := fun h => kindR_err h D false n a b hn hv x
    have k7 := fun h => pathP_err h D false n a b hn hv
    generalize ckL D n a b = c at *
    refine CallOk.run0 Try.func5 rfl rfl rfl rfl rfl (WpR.of_vc ?_)
    (conv => whnf); (repeat' (first | ((with_reducible refine ifb_mk (fun hc => ?_) (fun hc => ?_)) <;> ((try simp only [d9a, d9b, Bool.not_eq_true', Bool.not_eq_false', Int.not_lt, Int.not_le, ne_eq, d9c, beq_iff_eq, List.cons.injEq, and_true] at hc); (first | (exfalso; omega) | exact absurd True.intro hc | conv => whnf))) | ((with_reducible refine And.intro True.intro ?_); conv => whnf) | ((with_reducible refine CallX.all ?_); refine CallW.of_ok (kWk _) ?_; conv => whnf) | ((with_reducible refine grd_ex ?_); refine ex_ok (kWk _) ?_; conv => whnf) | ((with_reducible refine CallX.all ?_); refine CallW.of_ok (k1 _) ?_; conv => whnf) | ((with_reducible refine CallX.all ?_); refine CallW.of_ok (k2 _) ?_; conv => whnf) | ((with_reducible refine CallX.all ?_); refine CallW.of_ok (k3 _) ?_; conv => whnf) | ((with_reducible refine CallX.all ?_); refine CallW.of_ok (k4 _) ?_; conv => whnf) | ((with_reducible refine CallX.all ?_); refine CallW.of_ok (k5 _) ?_; conv => whnf) | ((with_reducible refine CallX.all ?_); refine CallW.of_ok (k6 _) ?_; conv => whnf) | ((with_reducible refine CallX.all ?_); refine CallW.of_ok (k7 _) ?_; conv => whnf) | ((with_reducible refine CallX.all (f := 22) ?_); refine CallW.inline Try.func22 rfl rfl (Nat.le_of_ble_eq_true rfl) (WpR.of_vc ?_); conv => whnf) | ((with_reducible refine And.intro ?hh ?_); (case hh => exact condA); conv => whnf) | fail))
    all_goals first | (refine ⟨[], ?_, rfl, rfl, trivial, trivs⟩; simp only [renV, renL]; (first | done | rfl | (simp; done) | (simp; omega) | grind)) | exact absurd (by assumption) hv | (exfalso; omega)
  obtain ⟨hD, l⟩ := ckL_lg hv
  obtain ⟨d, rfl⟩ : ∃ d : Nat, D = (d : Int) := ⟨D.toNat, by omega⟩
  have hd3 : d ≤ 3 := by omega
  have k2 := fun h => mostR_ok h hd3 false hv
  have k4 := fun h => countR_ok h hd3 false hv
  have k6 : ∃ p q : Int, (∀ h, CallOk Try.prog 34 [lgV d false n a b, .int .i64 x] h (.tup [.int .i64 p, .int .i64 q]) h) ∧ ∀ h, CallOk Try.prog 33 [lgV d false n a b, .int .i64 x] h (.tup [.int .i64 p, .int .i64 q]) h := by
    by_cases hx : 0 ≤ x ∧ x < n
    · obtain ⟨y, rfl⟩ : ∃ y : Nat, x = (y : Int) := ⟨x.toNat, by omega⟩
      have k := fun h => kindR_ok h hd3 false hv y (by omega)
      rcases best_facts hd3 hv with ⟨e1, e2⟩ | ⟨c, q, e1, e2, _, _, kK, _⟩
      · rw [e2] at k
        exact ⟨_, _, k, fun h => kindP_none h d hd3 false n a b hv y (by omega) e1⟩
      · rw [if_neg e2, if_neg e2] at k
        exact ⟨_, _, k, kK y (by omega)⟩
    · exact ⟨_, _, fun h => kindR_arg h d false n a b hv x hx, fun h => kindP_arg h d false n a b hv x hx⟩
  obtain ⟨p, q, k6, k5⟩ := k6
  rcases best_facts hd3 hv with ⟨e1, e2⟩ | ⟨c, r, e1, e2, k1, k3, _, g, k7, k8⟩
  · have k1 := fun h => mostP_ok h d hd3 false n a b hv
    have k3 := fun h => countP_ok h d hd3 false n a b hv
    have k7 := fun h => pathP_none h d hd3 false n a b hv e1
    rw [e1] at k1 k3
    dsimp only at k1 k3
    rw [e2] at k2 k4
    simp only [if_true] at k2 k4
    refine CallOk.run0 Try.func5 rfl rfl rfl rfl rfl (WpR.of_vc ?_)
    (conv => whnf); (repeat' (first | ((with_reducible refine ifb_mk (fun hc => ?_) (fun hc => ?_)) <;> ((try simp only [d9a, d9b, Bool.not_eq_true', Bool.not_eq_false', Int.not_lt, Int.not_le, ne_eq, d9c, beq_iff_eq, List.cons.injEq, and_true] at hc); (first | (exfalso; omega) | exact absurd True.intro hc | conv => whnf))) | ((with_reducible refine And.intro True.intro ?_); conv => whnf) | ((with_reducible refine CallX.all ?_); refine CallW.of_ok (kWk _) ?_; conv => whnf) | ((with_reducible refine grd_ex ?_); refine ex_ok (kWk _) ?_; conv => whnf) | ((with_reducible refine CallX.all ?_); refine CallW.of_ok (k1 _) ?_; conv => whnf) | ((with_reducible refine CallX.all ?_); refine CallW.of_ok (k2 _) ?_; conv => whnf) | ((with_reducible refine CallX.all ?_); refine CallW.of_ok (k3 _) ?_; conv => whnf) | ((with_reducible refine CallX.all ?_); refine CallW.of_ok (k4 _) ?_; conv => whnf) | ((with_reducible refine CallX.all ?_); refine CallW.of_ok (k5 _) ?_; conv => whnf) | ((with_reducible refine CallX.all ?_); refine CallW.of_ok (k6 _) ?_; conv => whnf) | ((with_reducible refine CallX.all ?_); refine CallW.of_ok (k7 _) ?_; conv => whnf) | ((with_reducible refine CallX.all (f := 22) ?_); refine CallW.inline Try.func22 rfl rfl (Nat.le_of_ble_eq_true rfl) (WpR.of_vc ?_); conv => whnf) | ((with_reducible refine And.intro ?hh ?_); (case hh => exact condA); conv => whnf) | fail))
    all_goals first | (refine ⟨[], ?_, rfl, rfl, trivial, trivs⟩; simp only [renV, renL]; (first | done | rfl | (simp; done) | (simp; omega) | grind)) | (exfalso; omega)
  · rw [if_neg e2] at k2 k4
    rw [if_neg e2] at k4
    refine CallOk.run0 Try.func5 rfl rfl rfl rfl rfl (WpR.of_vc ?_)
    (conv => whnf); (repeat' (first | ((with_reducible refine ifb_mk (fun hc => ?_) (fun hc => ?_)) <;> ((try simp only [d9a, d9b, Bool.not_eq_true', Bool.not_eq_false', Int.not_lt, Int.not_le, ne_eq, d9c, beq_iff_eq, List.cons.injEq, and_true] at hc); (first | (exfalso; omega) | exact absurd True.intro hc | conv => whnf))) | ((with_reducible refine And.intro True.intro ?_); conv => whnf) | ((with_reducible refine CallX.all ?_); refine CallW.of_ok (kWk _) ?_; conv => whnf) | ((with_reducible refine grd_ex ?_); refine ex_ok (kWk _) ?_; conv => whnf) | ((with_reducible refine CallX.all ?_); refine CallW.of_ok (k1 _) ?_; conv => whnf) | ((with_reducible refine CallX.all ?_); refine CallW.of_ok (k2 _) ?_; conv => whnf) | ((with_reducible refine CallX.all ?_); refine CallW.of_ok (k3 _) ?_; conv => whnf) | ((with_reducible refine CallX.all ?_); refine CallW.of_ok (k4 _) ?_; conv => whnf) | ((with_reducible refine CallX.all ?_); refine CallW.of_ok (k5 _) ?_; conv => whnf) | ((with_reducible refine CallX.all ?_); refine CallW.of_ok (k6 _) ?_; conv => whnf) | ((with_reducible refine CallX.all ?_); refine CallW.of_ok (k7 _) ?_; conv => whnf) | ((with_reducible refine CallX.all ?_); refine CallW.of_ok (k8 _) ?_; conv => whnf) | ((with_reducible refine grd_ex ?_); refine ex_ok (k8 _) ?_; conv => whnf) | ((with_reducible refine CallX.all (f := 22) ?_); refine CallW.inline Try.func22 rfl rfl (Nat.le_of_ble_eq_true rfl) (WpR.of_vc ?_); conv => whnf) | ((with_reducible refine And.intro ?hh ?_); (case hh => exact condA); conv => whnf) | fail))
    all_goals first | (refine ⟨[], ?_, rfl, rfl, trivial, trivs⟩; simp only [renV, renL]; (first | done | rfl | (simp; done) | (simp; omega) | grind)) | (exfalso; omega)
end Go.Proofs.K
