/- What the functions answer that the laws call, one after another (Ho). -/
import Derived.Test.YtppfddfmcnlioaaAs6
import Derived.Test.YtppfddfmcnlioaaB11

set_option linter.unusedVariables false
namespace Go.Proofs.J
open Go.As
set_option maxRecDepth 20000
set_option linter.unusedVariables false
set_option linter.unusedSimpArgs false

/-! ### Is there an order? -/

theorem isCirc_ok (h : As.H) (s : Nat) (S : Int) (lv : V) (hl : bare0 lv = true) (lk br : Nat → Nat) (hb : Tb br) (mk : Nat → Bool) (x : Nat) (hx : x < 10) {w : Bool} {g : Option (Nat × Nat)} (hs : h.get s = some (.cells (ofL (skL S lv lk br mk) 0) w g)) :
    CallOk Try.prog 100 [.ptr s 0, .int .i64 x] h (.bool ((br x).testBit x)) h := by
  have hgb := fun o (ho : o = 12 + x) => sk_br (S := S) (lv := lv) (lk := lk) (br := br) (mk := mk) ho hx
  have hbx := hb x hx
  have kI := fun h' => has_ok h' (br x) x (by omega) (by omega)
  have hBare : ∀ v ∈ skL S lv lk br mk, bare0 v = true := skL_bare hl
  refine CallOk.run Try.func100 rfl rfl (argsC := [.ptr 0 0, .int .i64 x]) (Nat.le_of_ble_eq_true rfl) [some (s, 0)] (.cons (.ptr (i := 0) rfl) (.cons (.bare rfl) .nil)) (one_view hs (skL_bare hl)) rfl (WpR.of_vc ?_)
  (conv => whnf); (repeat' (first | ((with_reducible refine ifb_mk (fun hc => ?_) (fun hc => ?_)) <;> ((try simp only [decide_eq_true_eq, decide_eq_false_iff_not, Bool.not_eq_true', Bool.not_eq_false', Int.not_lt, Int.not_le, ne_eq, Decidable.not_not, beq_iff_eq, List.cons.injEq, and_true] at hc); (first | (exfalso; omega) | exact absurd True.intro hc | conv => whnf))) | ((with_reducible refine And.intro True.intro ?_); conv => whnf) | ((with_reducible refine CallX.all ?_); refine CallW.of_ok (kI _) ?_; conv => whnf) | ((with_reducible refine grd_get ?_); refine som_mk (a := ?_) ?hh ?_; (case hh => exact hgb _ (by show 12 + Int.toNat (x : Int) * 1 = 12 + x; omega)); conv => whnf) | ((with_reducible refine And.intro ?hh ?_); (case hh => exact condA); conv => whnf) | fail))
  all_goals first | (exfalso; omega) | (refine ⟨[], ?_, rfl, rfl, trivial, trivs⟩; simp only [renV, renL]; (first | done | rfl | (simp; done) | (simp; omega) | grind))
/-- Is no star brighter than itself? -/
def hoB (S : Nat) (br : Nat → Nat) : Bool := allF S fun k => !(br k).testBit k
set_option maxHeartbeats 8000000 in
theorem hasOrder_ok (h : As.H) (s S : Nat) (hS : 1 ≤ S ∧ S ≤ 10) (lv : V) (hl : bare0 lv = true) (lk br : Nat → Nat) (hb : Tb br) (mk : Nat → Bool) {w : Bool} {g : Option (Nat × Nat)} (hs : h.get s = some (.cells (ofL (skL S lv lk br mk) 0) w g)) :
    CallOk Try.prog 70 [.ptr s 0] h (.bool (hoB S br)) h := by
  have hf := fun i => @allF_f S i fun k => !(br k).testBit k
  have ht := @allF_t S fun k => !(br k).testBit k
  unfold hoB
  generalize (allF S fun k => !(br k).testBit k) = z at *
  have kC := fun x (hx : x < 10) (h' : As.H) (hs : h'.get 0 = some (.cells (ofL (skL S lv lk br mk) 0) false none)) => isCirc_ok h' 0 S lv hl lk br hb mk x hx hs
  have hlt : ∀ n, ltB n (.cells (ofL (skL S lv lk br mk) 0) false none) := fun n => ltB_ofLb (skL_bare hl)
  have hBare : ∀ v ∈ skL S lv lk br mk, bare0 v = true := skL_bare hl
  refine CallOk.run Try.func70 rfl rfl (argsC := [.ptr 0 0]) (Nat.le_of_ble_eq_true rfl) [some (s, 0)] (.cons (.ptr (i := 0) rfl) .nil) (one_view hs (skL_bare hl)) rfl (WpR.of_vc ?_)
  (conv => whnf); (repeat' (first | ((with_reducible refine ifb_mk (fun hc => ?_) (fun hc => ?_)) <;> ((try simp only [decide_eq_true_eq, decide_eq_false_iff_not, Bool.not_eq_true', Bool.not_eq_false', Int.not_lt, Int.not_le, ne_eq, Decidable.not_not, beq_iff_eq, List.cons.injEq, and_true] at hc); (first | (exfalso; omega) | exact absurd True.intro hc | conv => whnf))) | ((with_reducible refine And.intro True.intro ?_); conv => whnf) | ((with_reducible refine CallX.all (f := 99) ?_); refine CallW.inline Try.func99 rfl rfl (Nat.le_of_ble_eq_true rfl) (WpR.of_vc ?_); conv => whnf) | ((with_reducible refine CallX.all (f := 93) ?_); refine CallW.inline Try.func93 rfl rfl (Nat.le_of_ble_eq_true rfl) (WpR.of_vc ?_); conv => whnf) | ((with_reducible refine RangeX.all ?_); conv => whnf) | ((with_reducible refine CallW.inline (f := 111) Try.func111 rfl rfl (Nat.le_of_ble_eq_true rfl) (WpR.of_vc ?_)); conv => whnf) | ((with_reducible refine And.intro ?hh ?_); (case hh => exact condA); conv => whnf) | fail))
  have hMap := hlt 7
  have hMapX := hlt 1000
  refine WpR.loopA (ι := Nat) [] [0, 1, 8] [] [] 7 (fun k => [(9, .int .i64 k)]) (fun _ => []) (fun k => S - k) (fun k => k ≤ S ∧ ∀ j, j < k → (!(br j).testBit j) = true) ?_ (0) (⟨Nat.zero_le _, fun j hj => absurd hj (Nat.not_lt_zero _)⟩) [] Back.auto
  rintro k ⟨j1, j2⟩
  refine WpR.of_vc ?_
  by_cases hk : k < S
  · have kCk := kC k (by omega)
    cases hb : (br k).testBit k with
    | true =>
      rw [hb] at kCk
      have ez : z = false := hf k hk (by rw [hb]; rfl)
      (conv => whnf); (repeat' (first | ((with_reducible refine ifb_mk (fun hc => ?_) (fun hc => ?_)) <;> ((try simp only [decide_eq_true_eq, decide_eq_false_iff_not, Bool.not_eq_true', Bool.not_eq_false', Int.not_lt, Int.not_le, ne_eq, Decidable.not_not, beq_iff_eq, List.cons.injEq, and_true] at hc); (first | (exfalso; omega) | exact absurd True.intro hc | conv => whnf))) | ((with_reducible refine And.intro True.intro ?_); conv => whnf) | ((with_reducible refine grd_and ?_); refine And.intro (hk) ?_; conv => whnf) | ((with_reducible refine And.intro ?hh ?_); (case hh => exact condA); conv => whnf) | fail))
      refine YldX.all ?_
      refine YldW.inline rfl rfl rfl (WpR.of_vc ?_)
      conv => whnf
      refine ⟨rfl, _, rfl, rfl, WpR.of_vc ?_⟩
      (conv => whnf); (repeat' (first | ((with_reducible refine ifb_mk (fun hc => ?_) (fun hc => ?_)) <;> ((try simp only [decide_eq_true_eq, decide_eq_false_iff_not, Bool.not_eq_true', Bool.not_eq_false', Int.not_lt, Int.not_le, ne_eq, Decidable.not_not, beq_iff_eq, List.cons.injEq, and_true] at hc); (first | (exfalso; omega) | exact absurd True.intro hc | conv => whnf))) | ((with_reducible refine And.intro True.intro ?_); conv => whnf) | ((with_reducible refine CallX.all ?_); refine CallW.of_ok (kCk _ rfl) ?_; conv => whnf) | ((with_reducible refine And.intro ?hh ?_); (case hh => exact condA); conv => whnf) | fail))
      refine ⟨_, _, rfl, ?_⟩
      (conv => whnf); (repeat' (first | ((with_reducible refine ifb_mk (fun hc => ?_) (fun hc => ?_)) <;> ((try simp only [decide_eq_true_eq, decide_eq_false_iff_not, Bool.not_eq_true', Bool.not_eq_false', Int.not_lt, Int.not_le, ne_eq, Decidable.not_not, beq_iff_eq, List.cons.injEq, and_true] at hc); (first | (exfalso; omega) | exact absurd True.intro hc | conv => whnf))) | ((with_reducible refine And.intro True.intro ?_); conv => whnf) | ((with_reducible refine And.intro ?hh ?_); (case hh => exact condA); conv => whnf) | fail))
      all_goals (refine ⟨[], ?_, rfl, rfl, trivial, trivs⟩; simp only [renV, renL]; rw [ez]; rfl)
    | false =>
      rw [hb] at kCk
      have hnx := below_succ (p := fun j => !(br j).testBit j) j2 (by rw [hb]; rfl)
      (conv => whnf); (repeat' (first | ((with_reducible refine ifb_mk (fun hc => ?_) (fun hc => ?_)) <;> ((try simp only [decide_eq_true_eq, decide_eq_false_iff_not, Bool.not_eq_true', Bool.not_eq_false', Int.not_lt, Int.not_le, ne_eq, Decidable.not_not, beq_iff_eq, List.cons.injEq, and_true] at hc); (first | (exfalso; omega) | exact absurd True.intro hc | conv => whnf))) | ((with_reducible refine And.intro True.intro ?_); conv => whnf) | ((with_reducible refine grd_and ?_); refine And.intro (hk) ?_; conv => whnf) | ((with_reducible refine And.intro ?hh ?_); (case hh => exact condA); conv => whnf) | fail))
      refine YldX.all ?_
      refine YldW.inline rfl rfl rfl (WpR.of_vc ?_)
      conv => whnf
      refine ⟨rfl, _, rfl, rfl, WpR.of_vc ?_⟩
      (conv => whnf); (repeat' (first | ((with_reducible refine ifb_mk (fun hc => ?_) (fun hc => ?_)) <;> ((try simp only [decide_eq_true_eq, decide_eq_false_iff_not, Bool.not_eq_true', Bool.not_eq_false', Int.not_lt, Int.not_le, ne_eq, Decidable.not_not, beq_iff_eq, List.cons.injEq, and_true] at hc); (first | (exfalso; omega) | exact absurd True.intro hc | conv => whnf))) | ((with_reducible refine And.intro True.intro ?_); conv => whnf) | ((with_reducible refine CallX.all ?_); refine CallW.of_ok (kCk _ rfl) ?_; conv => whnf) | ((with_reducible refine And.intro ?hh ?_); (case hh => exact condA); conv => whnf) | fail))
      refine ⟨_, _, rfl, ?_⟩
      (conv => whnf); (repeat' (first | ((with_reducible refine ifb_mk (fun hc => ?_) (fun hc => ?_)) <;> ((try simp only [decide_eq_true_eq, decide_eq_false_iff_not, Bool.not_eq_true', Bool.not_eq_false', Int.not_lt, Int.not_le, ne_eq, Decidable.not_not, beq_iff_eq, List.cons.injEq, and_true] at hc); (first | (exfalso; omega) | exact absurd True.intro hc | conv => whnf))) | ((with_reducible refine And.intro True.intro ?_); conv => whnf) | ((with_reducible refine And.intro ?hh ?_); (case hh => exact condA); conv => whnf) | fail))
      exact ⟨k + 1, [], by omega, ⟨by omega, hnx⟩, Back.auto⟩
  · have ez : z = true := ht fun j hj => j2 j (by omega)
    (conv => whnf); (repeat' (first | ((with_reducible refine ifb_mk (fun hc => ?_) (fun hc => ?_)) <;> ((try simp only [decide_eq_true_eq, decide_eq_false_iff_not, Bool.not_eq_true', Bool.not_eq_false', Int.not_lt, Int.not_le, ne_eq, Decidable.not_not, beq_iff_eq, List.cons.injEq, and_true] at hc); (first | (exfalso; omega) | exact absurd True.intro hc | conv => whnf))) | ((with_reducible refine And.intro True.intro ?_); conv => whnf) | ((with_reducible refine grd_and ?_); refine And.intro (hk) ?_; conv => whnf) | ((with_reducible refine And.intro ?hh ?_); (case hh => exact condA); conv => whnf) | fail))
    all_goals (refine ⟨[], ?_, rfl, rfl, trivial, trivs⟩; simp only [renV, renL]; rw [ez]; rfl)
end Go.Proofs.J

namespace Go.Proofs.J
open Go.As
set_option maxRecDepth 20000
set_option linter.unusedVariables false
set_option linter.unusedSimpArgs false

/-! ### The sky of a book with an order -/

set_option maxHeartbeats 4000000 in
theorem difN_w (S : Nat) (lv : V) (hl : bare0 lv = true) (lk br : Nat → Nat) (mk0 : Nat → Bool) :
    CallW Try.prog [] 58 [.ptr 0 0, .nils] (hp [skB S lv lk br mk0]) (LowK (.bool true) [skB S lv lk br fun _ => false]) := by
  refine CallW.inline (f := 58) Try.func58 rfl rfl (Nat.le_of_ble_eq_true rfl) (WpR.of_vc ?_)
  have hself : SubQ id (skB S lv lk br fun _ => false) (skB S lv lk br fun _ => false) := SubQ.ofL rfl (skL_bare hl) (.inl rfl)
  (conv => whnf); (repeat' (first | ((with_reducible refine ifb_mk (fun hc => ?_) (fun hc => ?_)) <;> ((try simp only [decide_eq_true_eq, decide_eq_false_iff_not, Bool.not_eq_true', Bool.not_eq_false', Int.not_lt, Int.not_le, ne_eq, Decidable.not_not, beq_iff_eq, List.cons.injEq, and_true] at hc); (first | (exfalso; omega) | exact absurd True.intro hc | conv => whnf))) | ((with_reducible refine And.intro True.intro ?_); conv => whnf) | ((with_reducible refine WpR.loopU 1 ?_); conv => whnf) | ((with_reducible refine And.intro ?hh ?_); (case hh => exact condA); conv => whnf) | fail))
  exact ⟨rfl, ⟨_, rfl, (SubQ.fin (by (conv => whnf); (repeat' (first | exact True.intro | rfl | exact congrArg some (renV_bare0 hl).symm | refine And.intro ?_ ?_)); done) (fun h => h) (by first | exact Or.inl rfl | exact Or.inr rfl))⟩, trivial⟩
theorem difN_ok (h : As.H) (s S : Nat) (lv : V) (hl : bare0 lv = true) (lk br : Nat → Nat) (mk0 : Nat → Bool) (hs : h.get s = some (skB S lv lk br mk0)) :
    CallOk Try.prog 58 [.ptr s 0, .nils] h (.bool true) (h.put s (skB S lv lk br fun _ => false)) :=
  one_call (argsC := [.ptr 0 0, .nils]) hs (skL_bare hl) (skL_bare hl) rfl rfl rfl (difN_w S lv hl lk br mk0)
set_option maxHeartbeats 8000000 in
theorem ordSky_new (h : As.H) (S : Nat) (ex : Bool) (n : Nat) (a b : Nat → Int) (hv : ckB S n a b = 0) (ho : hoB S (clo (loT a b n)) = true) :
    CallOk Try.prog 62 [bkV S ex n a b, .nils] h (.tup [.ptr (h.n + 0) 0, .int .i64 0]) (addBs h [skB S (.rsl ex 2 n (lkG a b)) (loT a b n) (clo (loT a b n)) fun _ => false]) := by
  obtain ⟨hS, hn, hok⟩ := ckB_fine hv
  have kB : ∀ (h' : As.H) (s : Nat), s = h'.n + 0 → _ := fun h' s e => by
    have := skyFor_new h' S ex n a b hv
    rw [← e] at this
    exact this
  have hTb := clo_tb (loT a b n)
  generalize clo (loT a b n) = br at *
  generalize loT a b n = lk at *
  have kB := fun (h' : As.H) (e : 1 = h'.n + 0) => kB h' 1 e
  have kD := fun (h' : As.H) hs => difN_ok h' 1 S (.rsl ex 2 n (lkG a b)) rfl lk br (fun _ => false) hs
  have kH := fun (h' : As.H) hs => hasOrder_ok h' 1 S hS (.rsl ex 2 n (lkG a b)) rfl lk br hTb (fun _ => false) (w := true) (g := none) hs
  rw [ho] at kH
  have hself : ∀ ρ : Nat → Nat, SubQ ρ (skB S (.rsl ex 2 n (lkG a b)) lk br fun _ => false) (skB S (.rsl ex 2 n (lkG a b)) lk br fun _ => false) := fun ρ => SubQ.ofL rfl (skL_bare rfl) (.inl rfl)
  refine CallOk.runN Try.func62 rfl rfl (argsC := [bkV S ex n a b, .nils]) (fun N => .tup [.ptr (N + 0) 0, .int .i64 0]) (fun N => [skB S (.rsl ex 2 n (lkG a b)) lk br fun _ => false]) (Nat.le_of_ble_eq_true rfl) [] (.cons (.lt0 rfl) (.cons (.lt0 rfl) .nil)) (viewM0 h) (ShV.tup (.cons (.ptr (i := 0) (Nat.le_of_ble_eq_true rfl) rfl rfl) (.cons (.bare rfl) .nil))) rfl (fun i b hi => ?_) (WpR.of_vc ?_)
  · match i, hi with
    | 0, hi => cases hi; exact ⟨_, rfl, rfl, .bare (ofL_bare (skL_bare rfl))⟩
    | i + 1, hi => simp at hi
  · (conv => whnf); (repeat' (first | ((with_reducible refine ifb_mk (fun hc => ?_) (fun hc => ?_)) <;> ((try simp only [decide_eq_true_eq, decide_eq_false_iff_not, Bool.not_eq_true', Bool.not_eq_false', Int.not_lt, Int.not_le, ne_eq, Decidable.not_not, beq_iff_eq, List.cons.injEq, and_true] at hc); (first | (exfalso; omega) | exact absurd True.intro hc | conv => whnf))) | ((with_reducible refine And.intro True.intro ?_); conv => whnf) | ((with_reducible refine CallX.all ?_); refine CallW.of_ok (kB _ (by rfl)) ?_; conv => whnf) | ((with_reducible refine CallX.all ?_); refine CallW.of_ok (kD _ rfl) ?_; conv => whnf) | ((with_reducible refine CallX.all ?_); refine CallW.of_ok (kH _ rfl) ?_; conv => whnf) | ((with_reducible refine And.intro ?hh ?_); (case hh => exact condA); conv => whnf) | fail))
    all_goals exact ⟨[1], rfl, rfl, rfl, ⟨⟨_, rfl, rfl, hself _⟩, ltB_ofLb (skL_bare rfl), rfl, trivial⟩, trivs⟩
set_option maxHeartbeats 8000000 in
theorem ordSky_rule (h : As.H) (S : Nat) (ex : Bool) (n : Nat) (a b : Nat → Int) (hv : ckB S n a b = 0) (ho : hoB S (clo (loT a b n)) = false) :
    CallOk Try.prog 62 [bkV S ex n a b, .nils] h (.tup [.nilp, .int .i64 16]) h := by
  obtain ⟨hS, hn, hok⟩ := ckB_fine hv
  have kB : ∀ (h' : As.H) (s : Nat), s = h'.n + 0 → _ := fun h' s e => by
    have := skyFor_new h' S ex n a b hv
    rw [← e] at this
    exact this
  have hTb := clo_tb (loT a b n)
  generalize clo (loT a b n) = br at *
  generalize loT a b n = lk at *
  have kB := fun (h' : As.H) (e : 1 = h'.n + 0) => kB h' 1 e
  have kD := fun (h' : As.H) hs => difN_ok h' 1 S (.rsl ex 2 n (lkG a b)) rfl lk br (fun _ => false) hs
  have kH := fun (h' : As.H) hs => hasOrder_ok h' 1 S hS (.rsl ex 2 n (lkG a b)) rfl lk br hTb (fun _ => false) (w := true) (g := none) hs
  rw [ho] at kH
  refine CallOk.run0 Try.func62 rfl rfl rfl rfl rfl (WpR.of_vc ?_)
  (conv => whnf); (repeat' (first | ((with_reducible refine ifb_mk (fun hc => ?_) (fun hc => ?_)) <;> ((try simp only [decide_eq_true_eq, decide_eq_false_iff_not, Bool.not_eq_true', Bool.not_eq_false', Int.not_lt, Int.not_le, ne_eq, Decidable.not_not, beq_iff_eq, List.cons.injEq, and_true] at hc); (first | (exfalso; omega) | exact absurd True.intro hc | conv => whnf))) | ((with_reducible refine And.intro True.intro ?_); conv => whnf) | ((with_reducible refine CallX.all ?_); refine CallW.of_ok (kB _ (by rfl)) ?_; conv => whnf) | ((with_reducible refine CallX.all ?_); refine CallW.of_ok (kD _ rfl) ?_; conv => whnf) | ((with_reducible refine CallX.all ?_); refine CallW.of_ok (kH _ rfl) ?_; conv => whnf) | ((with_reducible refine And.intro ?hh ?_); (case hh => exact condA); conv => whnf) | fail))
  all_goals first | (refine ⟨[], ?_, rfl, rfl, trivial, trivs⟩; simp only [renV, renL]; (first | done | rfl | (simp; done) | (simp; omega) | grind)) | (exfalso; omega)
end Go.Proofs.J

