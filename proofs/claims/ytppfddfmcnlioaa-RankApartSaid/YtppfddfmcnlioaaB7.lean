/- What the functions answer that the laws call, one after another (B7). -/
import Derived.Test.YtppfddfmcnlioaaAs6
import Derived.Test.YtppfddfmcnlioaaB2

set_option linter.unusedVariables false
namespace Go.Proofs.J
open Go.As
set_option maxRecDepth 20000
set_option linter.unusedVariables false
set_option linter.unusedSimpArgs false

/-! ### The sky of a book -/

/-- What was looked at. -/
def loT (a b : Nat → Int) : Nat → Nat → Nat
  | 0 => fun _ => 0
  | n + 1 => seT (loT a b n) (a n).toNat (b n).toNat
def skL (S : Int) (lv : V) (lk br : Nat → Nat) (mk : Nat → Bool) : List V := .int .i64 S :: lv :: (tV lk ++ (tV br ++ arrV 10 fun i => .bool (mk i)))
noncomputable def skB (S : Int) (lv : V) (lk br : Nat → Nat) (mk : Nat → Bool) : Blk := .cells (ofL (skL S lv lk br mk) 0) true none
theorem skL_bare {S : Int} {lv : V} {lk br : Nat → Nat} {mk : Nat → Bool} (hl : bare0 lv = true) : ∀ v ∈ skL S lv lk br mk, bare0 v = true := by
  intro v hv
  unfold skL at hv
  rcases List.mem_cons.1 hv with rfl | hv
  · rfl
  rcases List.mem_cons.1 hv with rfl | hv
  · exact hl
  rcases List.mem_append.1 hv with hv | hv
  · exact tV_bare v hv
  rcases List.mem_append.1 hv with hv | hv
  · exact tV_bare v hv
  · exact arrV_bare (fun _ => rfl) v hv
theorem loT_tb {a b : Nat → Int} {S n : Nat} (hS : S ≤ 10) (h : ∀ i, i < n → okL S a b i = true) : Tb (loT a b n) := by
  induction n with
  | zero => intro i _; show 0 < 1024; decide
  | succ n ih =>
    have h1 := of_decide_eq_true (h n (by omega))
    intro i hi
    show seT (loT a b n) (a n).toNat (b n).toNat i < 1024
    unfold seT
    have h2 := ih (fun i hi => h i (by omega)) i hi
    split
    · exact Nat.or_lt_two_pow (n := 10) h2 (Nat.pow_lt_pow_right (a := 2) (by omega) (by omega))
    · exact h2
set_option maxHeartbeats 8000000 in
theorem skyFor_new (h : As.H) (S : Nat) (ex : Bool) (n : Nat) (a b : Nat → Int) (hv : ckB S n a b = 0) :
    CallOk Try.prog 57 [bkV S ex n a b] h (.tup [.ptr (h.n + 0) 0, .int .i64 0]) (addBs h [skB S (.rsl ex 2 n (lkG a b)) (loT a b n) (clo (loT a b n)) fun _ => false]) := by
  obtain ⟨hS, hn, hok⟩ : (1 ≤ S ∧ S ≤ 10) ∧ n ≤ 40 ∧ ∀ i, i < n → okL S a b i = true := by
    unfold ckB at hv
    (repeat' split at hv) <;> first | (cases hv; done) | skip
    rename_i h1 h2
    exact ⟨by omega, h1.2.2, allF_iff.1 h2⟩
  have k1 := fun h' => checkBook_ok h' S ex n a b (by omega)
  rw [hv] at k1
  have hT := fun m (hm : m ≤ n) => loT_tb (a := a) (b := b) (n := m) hS.2 fun i hi => hok i (by omega)
  have kS := fun h' => settled_ok h' (loT a b n) (hT n (Nat.le_refl _))
  have h0 : loT a b 0 = fun _ => 0 := rfl
  have hs : ∀ m, loT a b (m + 1) = seT (loT a b m) (a m).toNat (b m).toNat := fun m => rfl
  generalize clo (loT a b n) = c at *
  have hMap : ∀ t : Nat → Nat, ltB 1000 (skB S (.rsl ex 2 n (lkG a b)) t (fun _ => 0) fun _ => false) := fun t => ltB_ofLb (skL_bare rfl)
  have hMap2 : ∀ t : Nat → Nat, ltB 2 (skB S (.rsl ex 2 n (lkG a b)) t (fun _ => 0) fun _ => false) := fun t => ltB_ofLb (skL_bare rfl)
  have hMapA : ∀ t : Nat → Nat, ltB 3 (skB S (.rsl ex 2 n (lkG a b)) t (fun _ => 0) fun _ => false) := fun t => ltB_ofLb (skL_bare rfl)
  refine CallOk.runN Try.func57 rfl rfl (argsC := [bkV S ex n a b]) (fun N => .tup [.ptr (N + 0) 0, .int .i64 0]) (fun N => [skB S (.rsl ex 2 n (lkG a b)) (loT a b n) c fun _ => false]) (Nat.le_of_ble_eq_true rfl) [] (.cons (.lt0 rfl) .nil) (viewM0 h) (ShV.tup (.cons (.ptr (i := 0) (Nat.le_of_ble_eq_true rfl) rfl rfl) (.cons (.bare rfl) .nil))) rfl (fun i b hi => ?_) (WpR.of_vc ?_)
  · match i, hi with
    | 0, hi => cases hi; exact ⟨_, rfl, rfl, .bare (ofL_bare (skL_bare rfl))⟩
    | i + 1, hi => simp at hi
  · (conv => whnf); (repeat' (first | ((with_reducible refine ifb_mk (fun hc => ?_) (fun hc => ?_)) <;> ((try simp only [decide_eq_true_eq, decide_eq_false_iff_not, Bool.not_eq_true', Bool.not_eq_false', Int.not_lt, Int.not_le, ne_eq, Decidable.not_not, beq_iff_eq, List.cons.injEq, and_true] at hc); (first | (exfalso; omega) | exact absurd True.intro hc | conv => whnf))) | ((with_reducible refine And.intro True.intro ?_); conv => whnf) | ((with_reducible refine CallX.all ?_); refine CallW.of_ok (k1 _) ?_; conv => whnf) | ((with_reducible refine And.intro ?hh ?_); (case hh => exact condA); conv => whnf) | fail))
    refine WpR.loopA (ι := Nat) [] [1, 5, 20, 21] [1] [] 2 (fun i => [(22, .int .i64 i)]) (fun i => [(1, skB S (.rsl ex 2 n (lkG a b)) (loT a b i) (fun _ => 0) fun _ => false)]) (fun i => n - i) (fun i => i ≤ n) ?_ (0) (Nat.zero_le _) [] Back.auto
    intro i hi
    refine WpR.of_vc ?_
    by_cases hin : i < n
    · have h1 := of_decide_eq_true (hok i hin)
      obtain ⟨x, hx⟩ : ∃ x : Nat, a i = x := ⟨(a i).toNat, by omega⟩
      obtain ⟨y, hy⟩ : ∃ y : Nat, b i = y := ⟨(b i).toNat, by omega⟩
      have hsi := hs i
      rw [hx, hy] at h1 hsi
      have kE := fun h' => seen_ok h' (loT a b i) x y (by omega) (by omega) (fun j hj => by have := hT i (by omega) j hj; omega)
      rw [← hx, ← hy] at kE
      rw [show (x : Int).toNat = x from rfl, show (y : Int).toNat = y from rfl] at hsi
      rw [← hsi] at kE
      (conv => whnf); (repeat' (first | ((with_reducible refine ifb_mk (fun hc => ?_) (fun hc => ?_)) <;> ((try simp only [decide_eq_true_eq, decide_eq_false_iff_not, Bool.not_eq_true', Bool.not_eq_false', Int.not_lt, Int.not_le, ne_eq, Decidable.not_not, beq_iff_eq, List.cons.injEq, and_true] at hc); (first | (exfalso; omega) | exact absurd True.intro hc | conv => whnf))) | ((with_reducible refine And.intro True.intro ?_); conv => whnf) | ((with_reducible refine grd_and ?_); refine And.intro (hin) ?_; conv => whnf) | ((with_reducible refine CallX.all ?_); refine CallW.of_ok (kE _) ?_; conv => whnf) | ((with_reducible refine grd_ex ?_); refine ex_ok (kE _) ?_; conv => whnf) | ((with_reducible refine WpR.draw (id := 8) mixed [0, 1, 2, 3, 4, 5, 6, 7, 8, 9, 10, 11, 12] [0, 0, 2, 6, 14, 0, 32, 0, 128, 510, 1023, 2047, 4095] ?hh ?_); (case hh => kernel_rfl); conv => whnf) | ((with_reducible refine And.intro ?hh ?_); (case hh => exact condA); conv => whnf) | fail))
      all_goals first | (exfalso; omega) | exact ⟨i + 1, [], by omega, by omega, Back.auto⟩
    · have ei : i = n := by omega
      subst ei
      (conv => whnf); (repeat' (first | ((with_reducible refine ifb_mk (fun hc => ?_) (fun hc => ?_)) <;> ((try simp only [decide_eq_true_eq, decide_eq_false_iff_not, Bool.not_eq_true', Bool.not_eq_false', Int.not_lt, Int.not_le, ne_eq, Decidable.not_not, beq_iff_eq, List.cons.injEq, and_true] at hc); (first | (exfalso; omega) | exact absurd True.intro hc | conv => whnf))) | ((with_reducible refine And.intro True.intro ?_); conv => whnf) | ((with_reducible refine grd_and ?_); refine And.intro (hin) ?_; conv => whnf) | ((with_reducible refine CallX.all ?_); refine CallW.of_ok (kS _) ?_; conv => whnf) | ((with_reducible refine And.intro ?hh ?_); (case hh => exact condA); conv => whnf) | fail))
      all_goals exact ⟨[1], rfl, rfl, rfl, ⟨⟨_, rfl, rfl, (SubQ.fin (by (conv => whnf); (repeat' (first | exact True.intro | rfl | refine And.intro ?_ ?_)); done) (fun h => h) (by first | exact Or.inl rfl | exact Or.inr rfl))⟩, ltB_ofLb (skL_bare rfl), rfl, trivial⟩, trivs⟩
end Go.Proofs.J

namespace Go.Proofs.J
open Go.As
set_option maxRecDepth 20000
set_option linter.unusedVariables false
set_option linter.unusedSimpArgs false

/-- A block of values that is read. -/
theorem one_view {h : As.H} {s : Nat} {L : List V} {w : Bool} {g : Option (Nat × Nat)} (hs : h.get s = some (.cells (ofL L 0) w g)) (hL : ∀ v ∈ L, bare0 v = true) : ViewM h [some (s, 0)] [.cells (ofL L 0) false none] := by
  refine viewM_of ⟨?_, trivial⟩ (fun k k' j o o' hk hk' hmp => ?_)
  · refine ⟨⟨rfl, rfl⟩, fun j o hj => ?_⟩
    cases hj
    refine ⟨_, _, _, hs, fun i d hd => ?_⟩
    rw [get_ofL, if_pos (Nat.zero_le _), Nat.sub_zero] at hd
    have hb := hL d (List.mem_of_getElem? hd)
    exact ⟨one_of_bare hb, d, by rw [Nat.zero_add]; exact get_ofL0 hd, .bare (by cases d <;> first | rfl | cases hb)⟩
  · obtain ⟨es, c, hg⟩ := hmp
    match k with
    | 0 => simp at hk; rw [← hk.1, hs] at hg; cases hg
    | k + 1 => simp at hk
def skF (S : Int) (lv : V) (lk br : Nat → Nat) (mk : Nat → Bool) (k : Nat) : V := if k = 0 then .int .i64 S else if k = 1 then lv else if k < 12 then .int .u16 ((lk (k - 2) : Nat) : Int) else if k < 22 then .int .u16 ((br (k - 12) : Nat) : Int) else .bool (mk (k - 22))
theorem skL_arr (S : Int) (lv : V) (lk br : Nat → Nat) (mk : Nat → Bool) : skL S lv lk br mk = arrV 32 (skF S lv lk br mk) := rfl
section
variable {S : Int} {lv : V} {lk br : Nat → Nat} {mk mk' : Nat → Bool}
theorem sk_br {o x : Nat} (ho : o = 12 + x) (hx : x < 10) : (ofL (skL S lv lk br mk) 0).get o = some (.int .u16 ((br x : Nat) : Int)) := by
  rw [skL_arr, arrV_get rfl (by omega)]
  unfold skF
  rw [if_neg (by omega), if_neg (by omega), if_neg (by omega), if_pos (by omega), show o - 12 = x from by omega]
end
end Go.Proofs.J

namespace Go.Proofs.J
open Go.As
set_option maxRecDepth 20000
set_option linter.unusedVariables false
set_option linter.unusedSimpArgs false

end Go.Proofs.J

namespace Go.Proofs.J
open Go.As
set_option maxRecDepth 20000
set_option linter.unusedVariables false
set_option linter.unusedSimpArgs false

theorem ckB_fine {S n : Nat} {a b : Nat → Int} (hv : ckB S n a b = 0) : (1 ≤ S ∧ S ≤ 10) ∧ n ≤ 40 ∧ ∀ i, i < n → okL S a b i = true := by
  unfold ckB at hv
  (repeat' split at hv) <;> first | (cases hv; done) | skip
  rename_i h1 h2
  exact ⟨by omega, h1.2.2, allF_iff.1 h2⟩
theorem ckB_nat {S : Int} {n : Nat} {a b : Nat → Int} (hv : ckB S n a b = 0) : ∃ s : Nat, S = s := by
  unfold ckB at hv
  (repeat' split at hv) <;> first | (cases hv; done) | skip
  rename_i h1 h2
  exact ⟨S.toNat, by omega⟩
theorem clo_tb (t : Nat → Nat) : Tb (clo t) := fun i _ => clo_lt t i
end Go.Proofs.J

