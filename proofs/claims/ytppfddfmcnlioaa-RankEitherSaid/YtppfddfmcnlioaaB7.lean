/- What the functions answer that the laws call, one after another (B7). -/
import Derived.Test.YtppfddfmcnlioaaAs6
import Derived.Test.YtppfddfmcnlioaaB2

set_option linter.unusedVariables false
namespace Go.Proofs.J
open Go.As
set_option maxRecDepth 20000
set_option linter.unusedVariables false
set_option linter.unusedSimpArgs false

/-! ### The sky of a book -/

/-- What was looked at. -/
def loT (a b : Nat → Int) : Nat → Nat → Nat
  | 0 => fun _ => 0
  | n + 1 => seT (loT a b n) (a n).toNat (b n).toNat
def skL (S : Int) (lv : V) (lk br : Nat → Nat) (mk : Nat → Bool) : List V := .int .i64 S :: lv :: (tV lk ++ (tV br ++ arrV 10 fun i => .bool (mk i)))
noncomputable def skB (S : Int) (lv : V) (lk br : Nat → Nat) (mk : Nat → Bool) : Blk := .cells (ofL (skL S lv lk br mk) 0) true none
theorem skL_bare {S : Int} {lv : V} {lk br : Nat → Nat} {mk : Nat → Bool} (hl : bare0 lv = true) : ∀ v ∈ skL S lv lk br mk, bare0 v = true := by
  intro v hv
  unfold skL at hv
  rcases List.mem_cons.1 hv with rfl | hv
  · rfl
  rcases List.mem_cons.1 hv with rfl | hv
  · exact hl
  rcases List.mem_append.1 hv with hv | hv
  · exact tV_bare v hv
  rcases List.mem_append.1 hv with hv | hv
  · exact tV_bare v hv
  · exact arrV_bare (fun _ => rfl) v hv
theorem loT_tb {a b : Nat → Int} {S n : Nat} (hS : S ≤ 10) (h : ∀ i, i < n → okL S a b i = true) : Tb (loT a b n) := by
  induction n with
  | zero => intro i _; show 0 < 1024; decide
  | succ n ih =>
    have h1 := of_decide_eq_true (h n (by omega))
    intro i hi
    show seT (loT a b n) (a n).toNat (b n).toNat i < 1024
    unfold seT
    have h2 := ih (fun i hi => h i (by omega)) i hi
    split
    · exact Nat.or_lt_two_pow (n := 10) h2 (Nat.pow_lt_pow_right (a := 2) (by omega) (by omega))
    · exact h2
set_option maxHeartbeats 8000000 in
theorem skyFor_new (h : As.H) (S : Nat) (ex : Bool) (n : Nat) (a b : Nat → Int) (hv : ckB S n a b = 0) :
    CallOk Try.prog 57 [bkV S ex n a b] h (.tup [.ptr (h.n + 0) 0, .int .i64 0]) (addBs h [skB S (.rsl ex 2 n (lkG a b)) (loT a b n) (clo (loT a b n)) fun _ => false]) := by
  obtain ⟨hS, hn, hok⟩ : (1 ≤ S ∧ S ≤ 10) ∧ n ≤ 40 ∧ ∀ i, i < n → okL S a b i = true := by
    unfold ckB at hv
    (repeat' split at hv) <;> first | (cases hv; done) | skip
    rename_i h1 h2
    exact ⟨by omega, h1.2.2, allF_iff.1 h2⟩
  have k1 := fun h' => checkBook_ok h' S ex n a b (by omega)
  rw [hv] at k1
  have hT := fun m (hm : m ≤ n) => loT_tb (a := a) (b := b) (n := m) hS.2 fun i hi => hok i (by omega)
  have kS := fun h' => settled_ok h' (loT a b n) (hT n (Nat.le_refl _))
  have h0 : loT a b 0 = fun _ => 0 := rfl
  have hs : ∀ m, loT a b (m + 1) = seT (loT a b m) (a m).toNat (b m).toNat := fun m => rfl
  generalize clo (loT a b n) = c at *
  have hMap : ∀ t : Nat → Nat, ltB 1000 (skB S (.rsl ex 2 n (lkG a b)) t (fun _ => 0) fun _ => false) := fun t => ltB_ofLb (skL_bare rfl)
  have hMap2 : ∀ t : Nat → Nat, ltB 2 (skB S (.rsl ex 2 n (lkG a b)) t (fun _ => 0) fun _ => false) := fun t => ltB_ofLb (skL_bare rfl)
  have hMapA : ∀ t : Nat → Nat, ltB 3 (skB S (.rsl ex 2 n (lkG a b)) t (fun _ => 0) fun _ => false) := fun t => ltB_ofLb (skL_bare rfl)
  refine CallOk.runN Try.func57 rfl rfl (argsC := [bkV S ex n a b]) (fun N => .tup [.ptr (N + 0) 0, .int .i64 0]) (fun N => [skB S (.rsl ex 2 n (lkG a b)) (loT a b n) c fun _ => false]) (Nat.le_of_ble_eq_true rfl) [] (.cons (.lt0 rfl) .nil) (viewM0 h) (ShV.tup (.cons (.ptr (i := 0) (Nat.le_of_ble_eq_true rfl) rfl rfl) (.cons (.bare rfl) .nil))) rfl (fun i b hi => ?_) (WpR.of_vc ?_)
  · match i, hi with
    | 0, hi => cases hi; exact ⟨_, rfl, rfl, .bare (ofL_bare (skL_bare rfl))⟩
    | i + 1, hi => simp at hi
  · (conv => whnf); (repeat' (first | ((with_reducible refine ifb_mk (fun hc => ?_) (fun hc => ?_)) <;> ((try simp only [decide_eq_true_eq, decide_eq_false_iff_not, Bool.not_eq_true', Bool.not_eq_false', Int.not_lt, Int.not_le, ne_eq, Decidable.not_not, beq_iff_eq, List.cons.injEq, and_true] at hc); (first | (exfalso; omega) | exact absurd True.intro hc | conv => whnf))) | ((with_reducible refine And.intro True.intro ?_); conv => whnf) | ((with_reducible refine CallX.all ?_); refine CallW.of_ok (k1 _) ?_; conv => whnf) | ((with_reducible refine And.intro ?hh ?_); (case hh => exact condA); conv => whnf) | fail))
    refine WpR.loopA (ι := Nat) [] [1, 5, 20, 21] [1] [] 2 (fun i => [(22, .int .i64 i)]) (fun i => [(1, skB S (.rsl ex 2 n (lkG a b)) (loT a b i) (fun _ => 0) fun _ => false)]) (fun i => n - i) (fun i => i ≤ n) ?_ (0) (Nat.zero_le _) [] Back.auto
    intro i hi
    refine WpR.of_vc ?_
    by_cases hin : i < n
    · have h1 := of_decide_eq_true (hok i hin)
      obtain ⟨x, hx⟩ : ∃ x : Nat, a i = x := ⟨(a i).toNat, by omega⟩
      obtain ⟨y, hy⟩ : ∃ y : Nat, b i = y := ⟨(b i).toNat, by omega⟩
      have hsi := hs i
      rw [hx, hy] at h1 hsi
      have kE := fun h' => seen_ok h' (loT a b i) x y (by omega) (by omega) (fun j hj => by have := hT i (by omega) j hj; omega)
      rw [← hx, ← hy] at kE
      rw [show (x : Int).toNat = x from rfl, show (y : Int).toNat = y from rfl] at hsi
      rw [← hsi] at kE
      (conv => whnf); (repeat' (first | ((with_reducible refine ifb_mk (fun hc => ?_) (fun hc => ?_)) <;> ((try simp only [decide_eq_true_eq, decide_eq_false_iff_not, Bool.not_eq_true', Bool.not_eq_false', Int.not_lt, Int.not_le, ne_eq, Decidable.not_not, beq_iff_eq, List.cons.injEq, and_true] at hc); (first | (exfalso; omega) | exact absurd True.intro hc | conv => whnf))) | ((with_reducible refine And.intro True.intro ?_); conv => whnf) | ((with_reducible refine grd_and ?_); refine And.intro (hin) ?_; conv => whnf) | ((with_reducible refine CallX.all ?_); refine CallW.of_ok (kE _) ?_; conv => whnf) | ((with_reducible refine grd_ex ?_); refine ex_ok (kE _) ?_; conv => whnf) | ((with_reducible refine WpR.draw (id := 8) mixed [0, 1, 2, 3, 4, 5, 6, 7, 8, 9, 10, 11, 12] [0, 0, 2, 6, 14, 0, 32, 0, 128, 510, 1023, 2047, 4095] ?hh ?_); (case hh => kernel_rfl); conv => whnf) | ((with_reducible refine And.intro ?hh ?_); (case hh => exact condA); conv => whnf) | fail))
      all_goals first | (exfalso; omega) | exact ⟨i + 1, [], by omega, by omega, Back.auto⟩
    · have ei : i = n := by omega
      subst ei
      (conv => whnf); (repeat' (first | ((with_reducible refine ifb_mk (fun hc => ?_) (fun hc => ?_)) <;> ((try simp only [decide_eq_true_eq, decide_eq_false_iff_not, Bool.not_eq_true', Bool.not_eq_false', Int.not_lt, Int.not_le, ne_eq, Decidable.not_not, beq_iff_eq, List.cons.injEq, and_true] at hc); (first | (exfalso; omega) | exact absurd True.intro hc | conv => whnf))) | ((with_reducible refine And.intro True.intro ?_); conv => whnf) | ((with_reducible refine grd_and ?_); refine And.intro (hin) ?_; conv => whnf) | ((with_reducible refine CallX.all ?_); refine CallW.of_ok (kS _) ?_; conv => whnf) | ((with_reducible refine And.intro ?hh ?_); (case hh => exact condA); conv => whnf) | fail))
      all_goals exact ⟨[1], rfl, rfl, rfl, ⟨⟨_, rfl, rfl, (SubQ.fin (by (conv => whnf); (repeat' (first | exact True.intro | rfl | refine And.intro ?_ ?_)); done) (fun h => h) (by first | exact Or.inl rfl | exact Or.inr rfl))⟩, ltB_ofLb (skL_bare rfl), rfl, trivial⟩, trivs⟩
end Go.Proofs.J

namespace Go.Proofs.J
open Go.As
set_option maxRecDepth 20000
set_option linter.unusedVariables false
set_option linter.unusedSimpArgs false

/-! ### A sky's block -/

def iG (l : Nat → Int) (i : Nat) : List V := [.int .i64 (l i)]
theorem ptr_dom {m : M} {s : Nat} {l : List V} {xs : List Value} (h : VRs m (.ptr s 0 :: l) xs) : m s ≠ none := by
  obtain ⟨x, a', _, hx, _⟩ := h.uncons
  cases hx with
  | ptr hm => exact fun hc => by rw [hm] at hc; cases hc
/-- A call that writes to one block of values. -/
theorem one_call {f : FuncId} {argsC : List V} {v : V} {L L' : List V} {h : As.H} {s : Nat} (hs : h.get s = some (.cells (ofL L 0) true none)) (hL : ∀ v ∈ L, bare0 v = true) (hL' : ∀ v ∈ L', bare0 v = true)
    (ha : ltL 1 argsC = true) (hp0 : argsC[0]? = some (.ptr 0 0)) (hv : bare v = true) (hcw : CallW Try.prog [] f argsC (hp [.cells (ofL L 0) true none]) (LowK v [.cells (ofL L' 0) true none])) :
    CallOk Try.prog f (renL (fun _ => s) argsC) h v (h.put s (.cells (ofL L' 0) true none)) := by
  have hlow1 := As.H.low_put h s (.cells (ofL L' 0) true none)
  refine CallOk.of_at (fun _ => s) hcw rfl (fun i j hi hj he => ?_) (fun k b hk => ?_) (fun k b hk => ?_) (fun i hi => ?_) rfl (by omega) (fun i hi => ?_) ha (fun base m w xs hr hvs k hk => ?_) hv
  · simp only [List.length_cons, List.length_nil] at hi hj; omega
  · match k, hk with
    | 0, hk => cases hk; exact ⟨_, hs, SubQ.ofL rfl hL (.inl rfl), ltB_ofLb hL, rfl⟩
    | k + 1, hk => simp at hk
  · match k, hk with
    | 0, hk =>
      cases hk
      refine ⟨_, by rw [As.H.get_put]; exact if_pos rfl, .cells fun j v' hv' => ⟨v', hv', ?_⟩, ltB_ofLb hL'⟩
      rw [get_ofL, if_pos (Nat.zero_le _), Nat.sub_zero] at hv'
      exact (renV_bare0 (hL' v' (List.mem_of_getElem? hv'))).symm
    | k + 1, hk => simp at hk
  · rw [As.H.get_put, if_neg (fun he => hi 0 (by simp) he.symm)]
  · rw [As.H.get_put, if_neg (by omega)]
  · cases argsC with
    | nil => simp at hp0
    | cons x l =>
      simp at hp0
      subst hp0
      exact ptr_dom (l := renL (fun _ => s) l) hvs
/-- A block of values that is read. -/
theorem one_view {h : As.H} {s : Nat} {L : List V} {w : Bool} {g : Option (Nat × Nat)} (hs : h.get s = some (.cells (ofL L 0) w g)) (hL : ∀ v ∈ L, bare0 v = true) : ViewM h [some (s, 0)] [.cells (ofL L 0) false none] := by
  refine viewM_of ⟨?_, trivial⟩ (fun k k' j o o' hk hk' hmp => ?_)
  · refine ⟨⟨rfl, rfl⟩, fun j o hj => ?_⟩
    cases hj
    refine ⟨_, _, _, hs, fun i d hd => ?_⟩
    rw [get_ofL, if_pos (Nat.zero_le _), Nat.sub_zero] at hd
    have hb := hL d (List.mem_of_getElem? hd)
    exact ⟨one_of_bare hb, d, by rw [Nat.zero_add]; exact get_ofL0 hd, .bare (by cases d <;> first | rfl | cases hb)⟩
  · obtain ⟨es, c, hg⟩ := hmp
    match k with
    | 0 => simp at hk; rw [← hk.1, hs] at hg; cases hg
    | k + 1 => simp at hk
def skF (S : Int) (lv : V) (lk br : Nat → Nat) (mk : Nat → Bool) (k : Nat) : V := if k = 0 then .int .i64 S else if k = 1 then lv else if k < 12 then .int .u16 ((lk (k - 2) : Nat) : Int) else if k < 22 then .int .u16 ((br (k - 12) : Nat) : Int) else .bool (mk (k - 22))
theorem skL_arr (S : Int) (lv : V) (lk br : Nat → Nat) (mk : Nat → Bool) : skL S lv lk br mk = arrV 32 (skF S lv lk br mk) := rfl
section
variable {S : Int} {lv : V} {lk br : Nat → Nat} {mk mk' : Nat → Bool}
theorem skF_bare (hl : bare0 lv = true) (k : Nat) : bare0 (skF S lv lk br mk k) = true := by
  unfold skF
  (repeat' split) <;> first | rfl | exact hl
theorem sk_mk {o x : Nat} (ho : o = 22 + x) (hx : x < 10) : (ofL (skL S lv lk br mk) 0).get o = some (.bool (mk x)) := by
  rw [skL_arr, arrV_get rfl (by omega)]
  unfold skF
  rw [if_neg (by omega), if_neg (by omega), if_neg (by omega), if_neg (by omega), show o - 22 = x from by omega]
theorem sk_br {o x : Nat} (ho : o = 12 + x) (hx : x < 10) : (ofL (skL S lv lk br mk) 0).get o = some (.int .u16 ((br x : Nat) : Int)) := by
  rw [skL_arr, arrV_get rfl (by omega)]
  unfold skF
  rw [if_neg (by omega), if_neg (by omega), if_neg (by omega), if_pos (by omega), show o - 12 = x from by omega]
theorem sk_lk {o x : Nat} (ho : o = 2 + x) (hx : x < 10) : (ofL (skL S lv lk br mk) 0).get o = some (.int .u16 ((lk x : Nat) : Int)) := by
  rw [skL_arr, arrV_get rfl (by omega)]
  unfold skF
  rw [if_neg (by omega), if_neg (by omega), if_pos (by omega), show o - 2 = x from by omega]
theorem sk_set {ρ : Nat → Nat} {o x : Nat} (hl : bare0 lv = true) (ho : o = 22 + x) (hx : x < 10) (hm : ∀ y, mk' y = if y = x then true else mk y) : SubQ ρ (.cells (ofL (skL S lv lk br mk') 0) true none) (.cells ((ofL (skL S lv lk br mk) 0).set o (.bool true)) true none) := by
  rw [skL_arr, skL_arr]
  refine arrV_set (p := 22 + x) (skF_bare hl) rfl ho fun c hc => ?_
  unfold skF
  by_cases e : c = 22 + x
  · subst e
    rw [if_pos rfl, if_neg (by omega), if_neg (by omega), if_neg (by omega), if_neg (by omega), hm, if_pos (by omega)]
  · rw [if_neg e]
    (repeat' split) <;> first | rfl | (rw [hm, if_neg (by omega)])
end
theorem anyF_succ {n : Nat} {p : Nat → Bool} : anyF (n + 1) p = (anyF n p || p n) := by
  rw [Bool.eq_iff_iff, Bool.or_eq_true, anyF_iff, anyF_iff]
  constructor
  · rintro ⟨i, hi, hp⟩
    by_cases e : i = n
    · subst e; exact .inr hp
    · exact .inl ⟨i, by omega, hp⟩
  · rintro (⟨i, hi, hp⟩ | hp)
    · exact ⟨i, by omega, hp⟩
    · exact ⟨n, by omega, hp⟩
/-! ### Different stars -/

/-- Which stars are marked behind i of a list. -/
def mkF (l : Nat → Int) (i : Nat) : Nat → Bool := fun x => anyF i fun j => decide (l j = (x : Int))
/-- Is the next one a star, and not there before? -/
def gdP (S : Nat) (l : Nat → Int) (i : Nat) : Bool := decide (0 ≤ l i ∧ l i ≤ (S : Int) - 1) && !mkF l i (l i).toNat
/-- How many are, from the first one on. -/
def gdN (S : Nat) (l : Nat → Int) : Nat → Nat
  | 0 => 0
  | i + 1 => if gdN S l i = i ∧ gdP S l i = true then i + 1 else gdN S l i
theorem gdN_yes {S : Nat} {l : Nat → Int} {i : Nat} (h : gdN S l i = i) (hp : gdP S l i = true) : gdN S l (i + 1) = i + 1 := by rw [gdN, if_pos ⟨h, hp⟩]
theorem gdN_no {S : Nat} {l : Nat → Int} {i : Nat} (h : gdN S l i = i) (hp : gdP S l i = false) : ∀ m, i < m → gdN S l m = i
  | 0, hm => by omega
  | m + 1, hm => by
    by_cases e : m = i
    · subst e; rw [gdN, if_neg (fun hc => by rw [hp] at hc; cases hc.2), h]
    · have := gdN_no h hp m (by omega)
      rw [gdN, if_neg (fun hc => by omega), this]
theorem gdN_all {S : Nat} {l : Nat → Int} : ∀ {k : Nat}, gdN S l k = k ↔ ∀ i, i < k → gdP S l i = true := by
  intro k
  constructor
  · intro h i hi
    cases hp : gdP S l i with
    | true => rfl
    | false =>
      have hle : ∀ m, gdN S l m ≤ m := fun m => by induction m with
        | zero => exact Nat.le_refl _
        | succ m ih => rw [gdN]; split <;> omega
      have hi' : ∀ m, m ≤ k → gdN S l m = m := fun m => by
        intro hm
        apply Classical.byContradiction
        intro hc
        have hlt : gdN S l m < m := by have := hle m; omega
        have : ∀ d, gdN S l (m + d) < m + d := fun d => by induction d with
          | zero => exact hlt
          | succ d ih => rw [← Nat.add_assoc, gdN, if_neg (by omega)]; omega
        have h2 := this (k - m)
        rw [show m + (k - m) = k from by omega] at h2
        omega
      have := gdN_no (hi' i (by omega)) hp k hi
      omega
  · intro h
    induction k with
    | zero => rfl
    | succ k ih => exact gdN_yes (ih fun i hi => h i (by omega)) (h k (by omega))
set_option maxHeartbeats 8000000 in
theorem dif_w (S : Nat) (hS : 1 ≤ S ∧ S ≤ 10) (lv : V) (hl : bare0 lv = true) (lk br : Nat → Nat) (mk0 : Nat → Bool) (ex : Bool) (k : Nat) (hk : k ≤ 9223372036854775807) (l : Nat → Int) :
    CallW Try.prog [] 58 [.ptr 0 0, .rsl ex 1 k (iG l)] (hp [skB S lv lk br mk0]) (LowK (.bool (decide (gdN S l k = k))) [skB S lv lk br (mkF l (gdN S l k))]) := by
  refine CallW.inline (f := 58) Try.func58 rfl rfl (Nat.le_of_ble_eq_true rfl) (WpR.of_vc ?_)
  have kW := fun x h' sv hs => within1_ok h' 0 ((S : Int) - 1) x sv hs
  have hMap : ∀ mk, ltB 1000 (skB S lv lk br mk) := fun mk => ltB_ofLb (skL_bare hl)
  have hMap2 : ∀ mk, ltB 1 (skB S lv lk br mk) := fun mk => ltB_ofLb (skL_bare hl)
  have h0 : mkF l 0 = fun _ => false := rfl
  have hno := @gdN_no S l
  have hyes := @gdN_yes S l
  have hself : ∀ mk, SubQ id (skB S lv lk br mk) (skB S lv lk br mk) := fun mk => SubQ.ofL rfl (skL_bare hl) (.inl rfl)
  generalize hG : gdN S l k = G at *
  (conv => whnf); (repeat' (first | ((with_reducible refine ifb_mk (fun hc => ?_) (fun hc => ?_)) <;> ((try simp only [decide_eq_true_eq, decide_eq_false_iff_not, Bool.not_eq_true', Bool.not_eq_false', Int.not_lt, Int.not_le, ne_eq, Decidable.not_not, beq_iff_eq, List.cons.injEq, and_true] at hc); (first | (exfalso; omega) | exact absurd True.intro hc | conv => whnf))) | ((with_reducible refine And.intro True.intro ?_); conv => whnf) | ((with_reducible refine And.intro ?hh ?_); (case hh => exact condA); conv => whnf) | fail))
  refine WpR.loopA (ι := Nat) [] [0, 11, 12] [0] [] 1 (fun i => [(13, .int .i64 i)]) (fun i => [(0, skB S lv lk br (mkF l i))]) (fun i => k - i) (fun i => i ≤ k ∧ gdN S l i = i) ?_ (0) (⟨Nat.zero_le _, rfl⟩) [] Back.auto
  rintro i ⟨j1, j2⟩
  refine WpR.of_vc ?_
  by_cases hi : i < k
  · have kW := kW (l i)
    by_cases hw : 0 ≤ l i ∧ l i ≤ (S : Int) - 1
    · rw [decide_eq_true hw] at kW
      obtain ⟨x, hx⟩ : ∃ x : Nat, l i = x := ⟨(l i).toNat, by omega⟩
      have hx10 : x < 10 := by omega
      have hgm := fun o (ho : o = 22 + x) => sk_mk (S := S) (lv := lv) (lk := lk) (br := br) (mk := mkF l i) ho hx10
      have hpe : gdP S l i = !mkF l i x := by unfold gdP; rw [decide_eq_true hw, hx, Bool.true_and]; rfl
      cases hm : mkF l i x with
      | true =>
        rw [hm] at hgm hpe
        have e : G = i := by rw [← hG]; exact hno j2 hpe k hi
        (conv => whnf); (repeat' (first | ((with_reducible refine ifb_mk (fun hc => ?_) (fun hc => ?_)) <;> ((try simp only [decide_eq_true_eq, decide_eq_false_iff_not, Bool.not_eq_true', Bool.not_eq_false', Int.not_lt, Int.not_le, ne_eq, Decidable.not_not, beq_iff_eq, List.cons.injEq, and_true] at hc); (first | (exfalso; omega) | exact absurd True.intro hc | conv => whnf))) | ((with_reducible refine And.intro True.intro ?_); conv => whnf) | ((with_reducible refine grd_and ?_); refine And.intro (hi) ?_; conv => whnf) | ((with_reducible refine CallX.all ?_); refine CallW.of_ok (kW _ _ (SlC.own rfl)) ?_; conv => whnf) | ((with_reducible refine grd_get ?_); refine som_mk (a := ?_) ?hh ?_; (case hh => exact hgm _ (by show 22 + Int.toNat (l i) * 1 = 22 + x; omega)); conv => whnf) | ((with_reducible refine And.intro ?hh ?_); (case hh => exact condA); conv => whnf) | fail))
        all_goals first | (exfalso; omega) | exact ⟨by rw [e, decide_eq_false (by omega)], by rw [e]; exact ⟨⟨_, rfl, hself _⟩, trivial⟩⟩
      | false =>
        rw [hm] at hgm hpe
        have hn := hyes j2 hpe
        have hmS : ∀ y, mkF l (i + 1) y = if y = x then true else mkF l i y := fun y => by
          show anyF (i + 1) _ = _
          rw [anyF_succ]
          by_cases e : y = x
          · subst e; rw [if_pos rfl, decide_eq_true hx, Bool.or_true]
          · rw [if_neg e, decide_eq_false (by omega), Bool.or_false]; rfl
        have hgs : ∀ ρ, SubQ ρ (.cells (ofL (skL S lv lk br (mkF l (i + 1))) 0) true none) (.cells ((ofL (skL S lv lk br (mkF l i)) 0).set (22 + Int.toNat (l i) * 1) (.bool true)) true none) := fun ρ => sk_set hl (by omega) hx10 hmS
        have hp : ∀ o, o = 22 + x → putN [V.bool true] (ofL (skL S lv lk br (mkF l i)) 0) o = some ((ofL (skL S lv lk br (mkF l i)) 0).set o (.bool true)) := fun o ho => by rw [putN_cons, hgm o ho]; rfl
        (conv => whnf); (repeat' (first | ((with_reducible refine ifb_mk (fun hc => ?_) (fun hc => ?_)) <;> ((try simp only [decide_eq_true_eq, decide_eq_false_iff_not, Bool.not_eq_true', Bool.not_eq_false', Int.not_lt, Int.not_le, ne_eq, Decidable.not_not, beq_iff_eq, List.cons.injEq, and_true] at hc); (first | (exfalso; omega) | exact absurd True.intro hc | conv => whnf))) | ((with_reducible refine And.intro True.intro ?_); conv => whnf) | ((with_reducible refine grd_and ?_); refine And.intro (hi) ?_; conv => whnf) | ((with_reducible refine CallX.all ?_); refine CallW.of_ok (kW _ _ (SlC.own rfl)) ?_; conv => whnf) | ((with_reducible refine grd_get ?_); refine som_mk (a := ?_) ?hh ?_; (case hh => exact hgm _ (by show 22 + Int.toNat (l i) * 1 = 22 + x; omega)); conv => whnf) | ((with_reducible refine grd_putN ?_); refine som_mk (a := ?_) ?hh ?_; (case hh => exact hp _ (by show 22 + Int.toNat (l i) * 1 = 22 + x; omega)); conv => whnf) | ((with_reducible refine And.intro ?hh ?_); (case hh => exact condA); conv => whnf) | fail))
        all_goals first | (exfalso; omega) | exact ⟨i + 1, [], by omega, ⟨by omega, hn⟩, Back.auto⟩
    · rw [decide_eq_false hw] at kW
      have hpe : gdP S l i = false := by unfold gdP; rw [decide_eq_false hw]; rfl
      have e : G = i := by rw [← hG]; exact hno j2 hpe k hi
      (conv => whnf); (repeat' (first | ((with_reducible refine ifb_mk (fun hc => ?_) (fun hc => ?_)) <;> ((try simp only [decide_eq_true_eq, decide_eq_false_iff_not, Bool.not_eq_true', Bool.not_eq_false', Int.not_lt, Int.not_le, ne_eq, Decidable.not_not, beq_iff_eq, List.cons.injEq, and_true] at hc); (first | (exfalso; omega) | exact absurd True.intro hc | conv => whnf))) | ((with_reducible refine And.intro True.intro ?_); conv => whnf) | ((with_reducible refine grd_and ?_); refine And.intro (hi) ?_; conv => whnf) | ((with_reducible refine CallX.all ?_); refine CallW.of_ok (kW _ _ (SlC.own rfl)) ?_; conv => whnf) | ((with_reducible refine And.intro ?hh ?_); (case hh => exact condA); conv => whnf) | fail))
      all_goals first | (exfalso; omega) | exact ⟨by rw [e, decide_eq_false (by omega)], by rw [e]; exact ⟨⟨_, rfl, hself _⟩, trivial⟩⟩
  · have ei : i = k := by omega
    have e : G = k := by rw [← hG, ← ei]; exact j2
    subst ei
    (conv => whnf); (repeat' (first | ((with_reducible refine ifb_mk (fun hc => ?_) (fun hc => ?_)) <;> ((try simp only [decide_eq_true_eq, decide_eq_false_iff_not, Bool.not_eq_true', Bool.not_eq_false', Int.not_lt, Int.not_le, ne_eq, Decidable.not_not, beq_iff_eq, List.cons.injEq, and_true] at hc); (first | (exfalso; omega) | exact absurd True.intro hc | conv => whnf))) | ((with_reducible refine And.intro True.intro ?_); conv => whnf) | ((with_reducible refine grd_and ?_); refine And.intro (hi) ?_; conv => whnf) | ((with_reducible refine And.intro ?hh ?_); (case hh => exact condA); conv => whnf) | fail))
    all_goals first | (exfalso; omega) | exact ⟨by rw [e, decide_eq_true rfl], by rw [e]; exact ⟨⟨_, rfl, hself _⟩, trivial⟩⟩
end Go.Proofs.J

namespace Go.Proofs.J
open Go.As
set_option maxRecDepth 20000
set_option linter.unusedVariables false
set_option linter.unusedSimpArgs false

theorem dif_ok (h : As.H) (s S : Nat) (hS : 1 ≤ S ∧ S ≤ 10) (lv : V) (hl : bare0 lv = true) (lk br : Nat → Nat) (mk0 : Nat → Bool) (ex : Bool) (k : Nat) (hk : k ≤ 9223372036854775807) (l : Nat → Int) (hs : h.get s = some (skB S lv lk br mk0)) :
    CallOk Try.prog 58 [.ptr s 0, .rsl ex 1 k (iG l)] h (.bool (decide (gdN S l k = k))) (h.put s (skB S lv lk br (mkF l (gdN S l k)))) :=
  one_call (argsC := [.ptr 0 0, .rsl ex 1 k (iG l)]) hs (skL_bare hl) (skL_bare hl) rfl rfl rfl (dif_w S hS lv hl lk br mk0 ex k hk l)

/-! ### Orders and circles -/

/-- The first i of a list, as a group. -/
def gF (l : Nat → Int) : Nat → Nat
  | 0 => 0
  | i + 1 => gF l i ||| 2 ^ (l i).toNat
theorem gF_lt {l : Nat → Int} : ∀ {i : Nat}, (∀ j, j < i → 0 ≤ l j ∧ l j < 10) → gF l i < 1024
  | 0, _ => by show 0 < 1024; decide
  | i + 1, h => Nat.or_lt_two_pow (n := 10) (gF_lt fun j hj => h j (by omega)) (Nat.pow_lt_pow_right (a := 2) (by omega) (by have := h i (by omega); omega))
theorem gF_bit {l : Nat → Int} {x : Nat} : ∀ {i : Nat}, (gF l i).testBit x = anyF i fun j => decide ((l j).toNat = x)
  | 0 => by rw [gF, Nat.zero_testBit]; rfl
  | i + 1 => by
    rw [gF, anyF_succ, ← gF_bit, testBit_with]
    congr 1
    rw [decide_eq_decide]; omega
/-- Has each one behind it all that are brighter? -/
def orB (br : Nat → Nat) (l : Nat → Int) (k : Nat) : Bool := allF k fun i => subB (br (l i).toNat) (gF l i)
/-- Is each one and the next a look? -/
def ciB (lk : Nat → Nat) (l : Nat → Int) (k : Nat) : Bool := allF k fun i => (lk (l ((i + 1) % k)).toNat).testBit (l i).toNat
set_option maxHeartbeats 8000000 in
theorem isOrder_ok (h : As.H) (s : Nat) (S : Int) (lv : V) (hl : bare0 lv = true) (lk br : Nat → Nat) (hb : Tb br) (mk : Nat → Bool) (ex : Bool) (k : Nat) (hk : k ≤ 1000) (l : Nat → Int) (hl10 : ∀ j, j < k → 0 ≤ l j ∧ l j < 10) (hs : h.get s = some (skB S lv lk br mk)) :
    CallOk Try.prog 59 [.ptr s 0, .rsl ex 1 k (iG l)] h (.bool (orB br l k)) h := by
  have hgl := fun i (hi : i ≤ k) => gF_lt (l := l) (i := i) fun j hj => hl10 j (by omega)
  have hgS : ∀ i, gF l (i + 1) = gF l i ||| 2 ^ (l i).toNat := fun i => rfl
  have hf := fun i => @allF_f k i fun i => subB (br (l i).toNat) (gF l i)
  have ht := @allF_t k fun i => subB (br (l i).toNat) (gF l i)
  unfold orB
  generalize (allF k fun i => subB (br (l i).toNat) (gF l i)) = z at *
  have hMap : ∀ i : Nat, ltB 1000 (.cells (ofL [.int .i64 (i : Int), .int .u16 ((gF l i : Nat) : Int)] 0) true none) := fun i => ltB_all rfl
  have hMap2 : ltB 2 (.cells (ofL (skL S lv lk br mk) 0) false none) := ltB_ofLb (skL_bare hl)
  have hMapA : ltB 3 (.cells (ofL (skL S lv lk br mk) 0) false none) := ltB_ofLb (skL_bare hl)
  have hBare : ∀ v ∈ skL S lv lk br mk, bare0 v = true := skL_bare hl
  refine CallOk.run Try.func59 rfl rfl (argsC := [.ptr 0 0, .rsl ex 1 k (iG l)]) (Nat.le_of_ble_eq_true rfl) [some (s, 0)] (.cons (.ptr (i := 0) rfl) (.cons (.bare rfl) .nil)) (one_view hs (skL_bare hl)) rfl (WpR.of_vc ?_)
  (conv => whnf); (repeat' (first | ((with_reducible refine ifb_mk (fun hc => ?_) (fun hc => ?_)) <;> ((try simp only [decide_eq_true_eq, decide_eq_false_iff_not, Bool.not_eq_true', Bool.not_eq_false', Int.not_lt, Int.not_le, ne_eq, Decidable.not_not, beq_iff_eq, List.cons.injEq, and_true] at hc); (first | (exfalso; omega) | exact absurd True.intro hc | conv => whnf))) | ((with_reducible refine And.intro True.intro ?_); conv => whnf) | ((with_reducible refine And.intro ?hh ?_); (case hh => exact condA); conv => whnf) | fail))
  refine WpR.loopA (ι := Nat) [] [0, 5, 8, 9] [1] [] 2 (fun i => [(10, .int .i64 i)]) (fun i => [(1, .cells (ofL [.int .i64 (i : Int), .int .u16 ((gF l i : Nat) : Int)] 0) true none)]) (fun i => k - i) (fun i => i ≤ k ∧ ∀ j, j < i → subB (br (l j).toNat) (gF l j) = true) ?_ (0) (⟨Nat.zero_le _, fun j hj => absurd hj (Nat.not_lt_zero _)⟩) [] Back.auto
  rintro i ⟨j1, j2⟩
  refine WpR.of_vc ?_
  by_cases hi : i < k
  · have hli := hl10 i hi
    obtain ⟨x, hx⟩ : ∃ x : Nat, l i = x := ⟨(l i).toNat, by omega⟩
    have hx10 : x < 10 := by omega
    have hxt : (l i).toNat = x := by omega
    have hgb := fun o (ho : o = 12 + x) => sk_br (S := S) (lv := lv) (lk := lk) (br := br) (mk := mk) ho hx10
    have hbx := hb x hx10
    have hgi := hgl i (by omega)
    have kI := fun h' => isWithin_ok h' (br x) (gF l i)
    have kB : ∀ h', _ := fun h' => bwith_ok h' (i : Int) (gF l i) x (by omega) (by omega) (by omega)
    rw [← hx] at kB
    have hgn := hgS i
    rw [hxt] at hgn
    rw [← hgn] at kB
    have hfi := hf i hi
    rw [hxt] at hfi
    cases hsu : subB (br x) (gF l i) with
    | true =>
      rw [hsu] at kI
      have hok : subB (br (l i).toNat) (gF l i) = true := by rw [hxt]; exact hsu
      (conv => whnf); (repeat' (first | ((with_reducible refine ifb_mk (fun hc => ?_) (fun hc => ?_)) <;> ((try simp only [decide_eq_true_eq, decide_eq_false_iff_not, Bool.not_eq_true', Bool.not_eq_false', Int.not_lt, Int.not_le, ne_eq, Decidable.not_not, beq_iff_eq, List.cons.injEq, and_true] at hc); (first | (exfalso; omega) | exact absurd True.intro hc | conv => whnf))) | ((with_reducible refine And.intro True.intro ?_); conv => whnf) | ((with_reducible refine grd_and ?_); refine And.intro (hi) ?_; conv => whnf) | ((with_reducible refine CallX.all ?_); refine CallW.of_ok (kI _) ?_; conv => whnf) | ((with_reducible refine grd_ex ?_); refine ex_ok (kI _) ?_; conv => whnf) | ((with_reducible refine CallX.all ?_); refine CallW.of_ok (kB _) ?_; conv => whnf) | ((with_reducible refine grd_get ?_); refine som_mk (a := ?_) ?hh ?_; (case hh => exact hgb _ (by show 12 + Int.toNat (l i) * 1 = 12 + x; omega)); conv => whnf) | ((with_reducible refine WpR.draw (id := 5) mixed [0, 1, 2, 3, 4, 5, 6, 7, 8, 9] [0, 0, 1, 5, 15, 31, 0, 64, 255, 511] ?hh ?_); (case hh => kernel_rfl); conv => whnf) | ((with_reducible refine And.intro ?hh ?_); (case hh => exact condA); conv => whnf) | fail))
      all_goals first | (exfalso; omega) | exact ⟨i + 1, [], by omega, ⟨by omega, below_succ j2 hok⟩, Back.auto⟩
    | false =>
      rw [hsu] at kI
      have ez : z = false := hfi hsu
      (conv => whnf); (repeat' (first | ((with_reducible refine ifb_mk (fun hc => ?_) (fun hc => ?_)) <;> ((try simp only [decide_eq_true_eq, decide_eq_false_iff_not, Bool.not_eq_true', Bool.not_eq_false', Int.not_lt, Int.not_le, ne_eq, Decidable.not_not, beq_iff_eq, List.cons.injEq, and_true] at hc); (first | (exfalso; omega) | exact absurd True.intro hc | conv => whnf))) | ((with_reducible refine And.intro True.intro ?_); conv => whnf) | ((with_reducible refine grd_and ?_); refine And.intro (hi) ?_; conv => whnf) | ((with_reducible refine CallX.all ?_); refine CallW.of_ok (kI _) ?_; conv => whnf) | ((with_reducible refine grd_ex ?_); refine ex_ok (kI _) ?_; conv => whnf) | ((with_reducible refine CallX.all ?_); refine CallW.of_ok (kB _) ?_; conv => whnf) | ((with_reducible refine grd_get ?_); refine som_mk (a := ?_) ?hh ?_; (case hh => exact hgb _ (by show 12 + Int.toNat (l i) * 1 = 12 + x; omega)); conv => whnf) | ((with_reducible refine WpR.draw (id := 5) mixed [0, 1, 2, 3, 4, 5, 6, 7, 8, 9] [0, 0, 1, 5, 15, 31, 0, 64, 255, 511] ?hh ?_); (case hh => kernel_rfl); conv => whnf) | ((with_reducible refine And.intro ?hh ?_); (case hh => exact condA); conv => whnf) | fail))
      all_goals first | (exfalso; omega) | (refine ⟨[], ?_, rfl, rfl, trivial, trivs⟩; simp only [renV, renL]; rw [ez])
  · have ez : z = true := ht fun j hj => j2 j (by omega)
    (conv => whnf); (repeat' (first | ((with_reducible refine ifb_mk (fun hc => ?_) (fun hc => ?_)) <;> ((try simp only [decide_eq_true_eq, decide_eq_false_iff_not, Bool.not_eq_true', Bool.not_eq_false', Int.not_lt, Int.not_le, ne_eq, Decidable.not_not, beq_iff_eq, List.cons.injEq, and_true] at hc); (first | (exfalso; omega) | exact absurd True.intro hc | conv => whnf))) | ((with_reducible refine And.intro True.intro ?_); conv => whnf) | ((with_reducible refine grd_and ?_); refine And.intro (hi) ?_; conv => whnf) | ((with_reducible refine And.intro ?hh ?_); (case hh => exact condA); conv => whnf) | fail))
    all_goals first | (exfalso; omega) | (refine ⟨[], ?_, rfl, rfl, trivial, trivs⟩; simp only [renV, renL]; rw [ez])
set_option maxHeartbeats 8000000 in
theorem isCircle_ok (h : As.H) (s : Nat) (S : Int) (lv : V) (hl : bare0 lv = true) (lk br : Nat → Nat) (hb : Tb lk) (mk : Nat → Bool) (ex : Bool) (k : Nat) (hk : k ≤ 1000) (l : Nat → Int) (hl10 : ∀ j, j < k → 0 ≤ l j ∧ l j < 10) (hs : h.get s = some (skB S lv lk br mk)) :
    CallOk Try.prog 61 [.ptr s 0, .rsl ex 1 k (iG l)] h (.bool (ciB lk l k)) h := by
  have hf := fun i => @allF_f k i fun i => (lk (l ((i + 1) % k)).toNat).testBit (l i).toNat
  have ht := @allF_t k fun i => (lk (l ((i + 1) % k)).toNat).testBit (l i).toNat
  unfold ciB
  generalize (allF k fun i => (lk (l ((i + 1) % k)).toNat).testBit (l i).toNat) = z at *
  have hMap2 : ltB 1 (.cells (ofL (skL S lv lk br mk) 0) false none) := ltB_ofLb (skL_bare hl)
  have hMapA : ltB 2 (.cells (ofL (skL S lv lk br mk) 0) false none) := ltB_ofLb (skL_bare hl)
  have hBare : ∀ v ∈ skL S lv lk br mk, bare0 v = true := skL_bare hl
  refine CallOk.run Try.func61 rfl rfl (argsC := [.ptr 0 0, .rsl ex 1 k (iG l)]) (Nat.le_of_ble_eq_true rfl) [some (s, 0)] (.cons (.ptr (i := 0) rfl) (.cons (.bare rfl) .nil)) (one_view hs (skL_bare hl)) rfl (WpR.of_vc ?_)
  (conv => whnf); (repeat' (first | ((with_reducible refine ifb_mk (fun hc => ?_) (fun hc => ?_)) <;> ((try simp only [decide_eq_true_eq, decide_eq_false_iff_not, Bool.not_eq_true', Bool.not_eq_false', Int.not_lt, Int.not_le, ne_eq, Decidable.not_not, beq_iff_eq, List.cons.injEq, and_true] at hc); (first | (exfalso; omega) | exact absurd True.intro hc | conv => whnf))) | ((with_reducible refine And.intro True.intro ?_); conv => whnf) | ((with_reducible refine And.intro ?hh ?_); (case hh => exact condA); conv => whnf) | fail))
  refine WpR.loopA (ι := Nat) [] [0, 1, 8, 9] [] [] 1 (fun i => [(10, .int .i64 i)]) (fun _ => []) (fun i => k - i) (fun i => i ≤ k ∧ ∀ j, j < i → (lk (l ((j + 1) % k)).toNat).testBit (l j).toNat = true) ?_ (0) (⟨Nat.zero_le _, fun j hj => absurd hj (Nat.not_lt_zero _)⟩) [] Back.auto
  rintro i ⟨j1, j2⟩
  refine WpR.of_vc ?_
  by_cases hi : i < k
  · have hli := hl10 i hi
    obtain ⟨x, hx⟩ : ∃ x : Nat, l i = x := ⟨(l i).toNat, by omega⟩
    have hfi := hf i hi
    have hok := fun h => below_succ (p := fun j => (lk (l ((j + 1) % k)).toNat).testBit (l j).toNat) j2 h
    have hmk : (i + 1) % k < k := Nat.mod_lt _ (by omega)
    have hlp := hl10 _ hmk
    have hlp1 := hlp.1
    have hlp2 : l ((i + 1) % k) < ((10 : Nat) : Int) := by omega
    obtain ⟨y, hy⟩ : ∃ y : Nat, l ((i + 1) % k) = y := ⟨(l ((i + 1) % k)).toNat, by omega⟩
    have hy10 : y < 10 := by omega
    have hxt : (l i).toNat = x := by omega
    have hyt : (l ((i + 1) % k)).toNat = y := by omega
    have hgb := fun o (ho : o = 2 + y) => sk_lk (S := S) (lv := lv) (lk := lk) (br := br) (mk := mk) ho hy10
    have hby := hb y hy10
    have kI : ∀ h', _ := fun h' => has_ok h' (lk y) x (by omega) (by omega)
    rw [← hx] at kI
    rw [hxt, hyt] at hfi hok
    have w0 : (k : Int) ≠ 0 := by omega
    have w1 : InR (((i + 1) % k : Nat) : Int) := by unfold InR; omega
    cases hsu : (lk y).testBit x with
    | true =>
      rw [hsu] at kI
      have hok := hok hsu
      (conv => whnf); (repeat' (first | ((with_reducible refine ifb_mk (fun hc => ?_) (fun hc => ?_)) <;> ((try simp only [decide_eq_true_eq, decide_eq_false_iff_not, Bool.not_eq_true', Bool.not_eq_false', Int.not_lt, Int.not_le, ne_eq, Decidable.not_not, beq_iff_eq, List.cons.injEq, and_true] at hc); (first | (exfalso; omega) | exact absurd True.intro hc | conv => whnf))) | ((with_reducible refine And.intro True.intro ?_); conv => whnf) | ((with_reducible refine grd_and ?_); refine And.intro (hi) ?_; conv => whnf) | ((with_reducible refine grd_and ?_); refine And.intro (w0) ?_; conv => whnf) | ((with_reducible refine grd_and ?_); refine And.intro (w1) ?_; conv => whnf) | ((with_reducible refine grd_and ?_); refine And.intro (hmk) ?_; conv => whnf) | ((with_reducible refine CallX.all ?_); refine CallW.of_ok (kI _) ?_; conv => whnf) | ((with_reducible refine grd_get ?_); refine som_mk (a := ?_) ?hh ?_; (case hh => exact hgb _ (by show 2 + Int.toNat (l ((i + 1) % k)) * 1 = 2 + y; omega)); conv => whnf) | ((with_reducible refine grd_and ?_); refine And.intro (hlp1) ?_; conv => whnf) | ((with_reducible refine grd_and ?_); refine And.intro (hlp2) ?_; conv => whnf) | ((with_reducible refine And.intro ?hh ?_); (case hh => exact condA); conv => whnf) | fail))
      all_goals first | (exfalso; omega) | exact ⟨i + 1, [], by omega, ⟨by omega, hok⟩, Back.auto⟩
    | false =>
      rw [hsu] at kI
      have ez : z = false := hfi hsu
      (conv => whnf); (repeat' (first | ((with_reducible refine ifb_mk (fun hc => ?_) (fun hc => ?_)) <;> ((try simp only [decide_eq_true_eq, decide_eq_false_iff_not, Bool.not_eq_true', Bool.not_eq_false', Int.not_lt, Int.not_le, ne_eq, Decidable.not_not, beq_iff_eq, List.cons.injEq, and_true] at hc); (first | (exfalso; omega) | exact absurd True.intro hc | conv => whnf))) | ((with_reducible refine And.intro True.intro ?_); conv => whnf) | ((with_reducible refine grd_and ?_); refine And.intro (hi) ?_; conv => whnf) | ((with_reducible refine grd_and ?_); refine And.intro (w0) ?_; conv => whnf) | ((with_reducible refine grd_and ?_); refine And.intro (w1) ?_; conv => whnf) | ((with_reducible refine grd_and ?_); refine And.intro (hmk) ?_; conv => whnf) | ((with_reducible refine CallX.all ?_); refine CallW.of_ok (kI _) ?_; conv => whnf) | ((with_reducible refine grd_get ?_); refine som_mk (a := ?_) ?hh ?_; (case hh => exact hgb _ (by show 2 + Int.toNat (l ((i + 1) % k)) * 1 = 2 + y; omega)); conv => whnf) | ((with_reducible refine grd_and ?_); refine And.intro (hlp1) ?_; conv => whnf) | ((with_reducible refine grd_and ?_); refine And.intro (hlp2) ?_; conv => whnf) | ((with_reducible refine And.intro ?hh ?_); (case hh => exact condA); conv => whnf) | fail))
      all_goals first | (exfalso; omega) | (refine ⟨[], ?_, rfl, rfl, trivial, trivs⟩; simp only [renV, renL]; rw [ez])
  · have ez : z = true := ht fun j hj => j2 j (by omega)
    (conv => whnf); (repeat' (first | ((with_reducible refine ifb_mk (fun hc => ?_) (fun hc => ?_)) <;> ((try simp only [decide_eq_true_eq, decide_eq_false_iff_not, Bool.not_eq_true', Bool.not_eq_false', Int.not_lt, Int.not_le, ne_eq, Decidable.not_not, beq_iff_eq, List.cons.injEq, and_true] at hc); (first | (exfalso; omega) | exact absurd True.intro hc | conv => whnf))) | ((with_reducible refine And.intro True.intro ?_); conv => whnf) | ((with_reducible refine grd_and ?_); refine And.intro (hi) ?_; conv => whnf) | ((with_reducible refine And.intro ?hh ?_); (case hh => exact condA); conv => whnf) | fail))
    all_goals first | (exfalso; omega) | (refine ⟨[], ?_, rfl, rfl, trivial, trivs⟩; simp only [renV, renL]; rw [ez])
end Go.Proofs.J

namespace Go.Proofs.J
open Go.As
set_option maxRecDepth 20000
set_option linter.unusedVariables false
set_option linter.unusedSimpArgs false

/-! ### CheckOrder, CheckCircle -/

def wiR (a b : Int) (n : Nat) (s : Nat → Int) : Bool := allF n fun i => decide (a ≤ s i ∧ s i ≤ b)
theorem withinR_ok (h : H) (a b : Int) (n : Nat) (s : Nat → Int) (ex : Bool) (hn : n ≤ 9223372036854775807) : CallOk Try.prog 55 [.int .i64 a, .int .i64 b, .rsl ex 1 n (iG s)] h (.bool (wiR a b n s)) h := by
  refine CallOk.run0 Try.func55 rfl rfl rfl rfl rfl (WpR.of_vc ?_)
  (conv => whnf); (repeat' (first | ((with_reducible refine ifb_mk (fun hc => ?_) (fun hc => ?_)) <;> ((try simp only [decide_eq_true_eq, decide_eq_false_iff_not, Bool.not_eq_true', Bool.not_eq_false', Int.not_lt, Int.not_le, ne_eq, Decidable.not_not, beq_iff_eq, List.cons.injEq, and_true] at hc); (first | (exfalso; omega) | exact absurd True.intro hc | conv => whnf))) | ((with_reducible refine And.intro True.intro ?_); conv => whnf) | ((with_reducible refine And.intro ?hh ?_); (case hh => exact condA); conv => whnf) | fail))
  refine WpR.loopA (ι := Nat) [] [0, 1, 9, 10] [] [] 0 (fun i => [(11, .int .i64 i)]) (fun _ => []) (fun i => n - i) (fun i => i ≤ n ∧ ∀ j, j < i → decide (a ≤ s j ∧ s j ≤ b) = true) ?_ (0) (⟨Nat.zero_le _, fun j hj => by omega⟩) [] Back.auto
  rintro i ⟨h1, hP⟩
  refine WpR.of_vc ?_
  by_cases hi : i < n
  · cases ht : decide (a ≤ s i ∧ s i ≤ b) with
    | true =>
      have ht' : a ≤ s i ∧ s i ≤ b := of_decide_eq_true ht
      (conv => whnf); (repeat' (first | ((with_reducible refine ifb_mk (fun hc => ?_) (fun hc => ?_)) <;> ((try simp only [decide_eq_true_eq, decide_eq_false_iff_not, Bool.not_eq_true', Bool.not_eq_false', Int.not_lt, Int.not_le, ne_eq, Decidable.not_not, beq_iff_eq, List.cons.injEq, and_true] at hc); (first | (exfalso; omega) | exact absurd True.intro hc | conv => whnf))) | ((with_reducible refine And.intro True.intro ?_); conv => whnf) | ((with_reducible refine grd_and ?_); refine And.intro (hi) ?_; conv => whnf) | ((with_reducible refine And.intro ?hh ?_); (case hh => exact condA); conv => whnf) | fail))
      all_goals first | (exfalso; omega) | exact ⟨i + 1, [], by omega, ⟨by omega, below_succ hP ht⟩, Back.auto⟩
    | false =>
      have ht' : ¬ (a ≤ s i ∧ s i ≤ b) := of_decide_eq_false ht
      have e : wiR a b n s = false := allF_f (p := fun i => decide (a ≤ s i ∧ s i ≤ b)) hi ht
      rw [e]
      (conv => whnf); (repeat' (first | ((with_reducible refine ifb_mk (fun hc => ?_) (fun hc => ?_)) <;> ((try simp only [decide_eq_true_eq, decide_eq_false_iff_not, Bool.not_eq_true', Bool.not_eq_false', Int.not_lt, Int.not_le, ne_eq, Decidable.not_not, beq_iff_eq, List.cons.injEq, and_true] at hc); (first | (exfalso; omega) | exact absurd True.intro hc | conv => whnf))) | ((with_reducible refine And.intro True.intro ?_); conv => whnf) | ((with_reducible refine grd_and ?_); refine And.intro (hi) ?_; conv => whnf) | ((with_reducible refine And.intro ?hh ?_); (case hh => exact condA); conv => whnf) | fail))
      all_goals first | (refine ⟨[], ?_, rfl, rfl, trivial, trivs⟩; simp only [renV, renL]; (first | done | rfl | (simp; done) | (simp; omega) | grind)) | (exfalso; omega)
  · (conv => whnf); (repeat' (first | ((with_reducible refine ifb_mk (fun hc => ?_) (fun hc => ?_)) <;> ((try simp only [decide_eq_true_eq, decide_eq_false_iff_not, Bool.not_eq_true', Bool.not_eq_false', Int.not_lt, Int.not_le, ne_eq, Decidable.not_not, beq_iff_eq, List.cons.injEq, and_true] at hc); (first | (exfalso; omega) | exact absurd True.intro hc | conv => whnf))) | ((with_reducible refine And.intro True.intro ?_); conv => whnf) | ((with_reducible refine And.intro ?hh ?_); (case hh => exact condA); conv => whnf) | fail))
    have e : wiR a b n s = true := allF_t fun j hj => hP j (by omega)
    rw [e]
    (refine ⟨[], ?_, rfl, rfl, trivial, trivs⟩; simp only [renV, renL]; (first | done | rfl | (simp; done) | (simp; omega) | grind))

/-- CheckOrder: the error. -/
noncomputable def coE (S n : Nat) (a b : Nat → Int) (k : Nat) (l : Nat → Int) : Int := if k = S then (if gdN S l k = k then (if orB (clo (loT a b n)) l k = true then 0 else 16) else 2) else 15
theorem gd_rng {S : Nat} (hS : 1 ≤ S ∧ S ≤ 10) {l : Nat → Int} {k : Nat} (h : gdN S l k = k) : ∀ j, j < k → 0 ≤ l j ∧ l j < S := fun j hj => by
  have h1 := gdN_all.1 h j hj
  unfold gdP at h1
  rw [Bool.and_eq_true] at h1
  have h2 := of_decide_eq_true h1.1
  omega
theorem ckB_fine {S n : Nat} {a b : Nat → Int} (hv : ckB S n a b = 0) : (1 ≤ S ∧ S ≤ 10) ∧ n ≤ 40 ∧ ∀ i, i < n → okL S a b i = true := by
  unfold ckB at hv
  (repeat' split at hv) <;> first | (cases hv; done) | skip
  rename_i h1 h2
  exact ⟨by omega, h1.2.2, allF_iff.1 h2⟩
theorem ckB_nat {S : Int} {n : Nat} {a b : Nat → Int} (hv : ckB S n a b = 0) : ∃ s : Nat, S = s := by
  unfold ckB at hv
  (repeat' split at hv) <;> first | (cases hv; done) | skip
  rename_i h1 h2
  exact ⟨S.toNat, by omega⟩
theorem clo_tb (t : Nat → Nat) : Tb (clo t) := fun i _ => clo_lt t i
set_option maxHeartbeats 8000000 in
theorem checkOrder_ok (h : As.H) (S : Nat) (ex : Bool) (n : Nat) (a b : Nat → Int) (hv : ckB S n a b = 0) (ex2 : Bool) (k : Nat) (hk : k ≤ 9223372036854775807) (l : Nat → Int) :
    CallOk Try.prog 22 [bkV S ex n a b, .rsl ex2 1 k (iG l)] h (.int .i64 (coE S n a b k l)) h := by
  obtain ⟨hS, hn, hok⟩ := ckB_fine hv
  have kB : ∀ (h' : As.H) (s : Nat), s = h'.n + 0 → _ := fun h' s e => by
    have := skyFor_new h' S ex n a b hv
    rw [← e] at this
    exact this
  have hTb := clo_tb (loT a b n)
  unfold coE
  generalize clo (loT a b n) = br at *
  generalize loT a b n = lk at *
  have kB := fun (h' : As.H) (e : 1 = h'.n + 0) => kB h' 1 e
  have kD := fun (h' : As.H) hs => dif_ok h' 1 S hS (.rsl ex 2 n (lkG a b)) rfl lk br (fun _ => false) ex2 k hk l hs
  have kO := fun (h' : As.H) (hk1 : k ≤ 1000) hl hs => isOrder_ok h' 1 (S : Int) (.rsl ex 2 n (lkG a b)) rfl lk br hTb (mkF l (gdN S l k)) ex2 k hk1 l hl hs
  by_cases h1 : k = S
  · rw [if_pos h1]
    by_cases h2 : gdN S l k = k
    · rw [if_pos h2]
      rw [decide_eq_true h2] at kD
      have hr := gd_rng hS h2
      have kO := fun h' => kO h' (by omega) (fun j hj => by have := hr j hj; omega)
      generalize mkF l (gdN S l k) = mk at *
      cases ho : orB br l k with
      | true =>
        rw [ho] at kO
        rw [if_pos rfl]
        refine CallOk.run0 Try.func22 rfl rfl rfl rfl rfl (WpR.of_vc ?_)
        (conv => whnf); (repeat' (first | ((with_reducible refine ifb_mk (fun hc => ?_) (fun hc => ?_)) <;> ((try simp only [decide_eq_true_eq, decide_eq_false_iff_not, Bool.not_eq_true', Bool.not_eq_false', Int.not_lt, Int.not_le, ne_eq, Decidable.not_not, beq_iff_eq, List.cons.injEq, and_true] at hc); (first | (exfalso; omega) | exact absurd True.intro hc | conv => whnf))) | ((with_reducible refine And.intro True.intro ?_); conv => whnf) | ((with_reducible refine CallX.all ?_); refine CallW.of_ok (kB _ (by rfl)) ?_; conv => whnf) | ((with_reducible refine CallX.all ?_); refine CallW.of_ok (kD _ rfl) ?_; conv => whnf) | ((with_reducible refine CallX.all ?_); refine CallW.of_ok (kO _ rfl) ?_; conv => whnf) | ((with_reducible refine And.intro ?hh ?_); (case hh => exact condA); conv => whnf) | fail))
        all_goals first | (refine ⟨[], ?_, rfl, rfl, trivial, trivs⟩; simp only [renV, renL]; (first | done | rfl | (simp; done) | (simp; omega) | grind)) | (exfalso; omega)
      | false =>
        rw [ho] at kO
        rw [if_neg (by decide)]
        refine CallOk.run0 Try.func22 rfl rfl rfl rfl rfl (WpR.of_vc ?_)
        (conv => whnf); (repeat' (first | ((with_reducible refine ifb_mk (fun hc => ?_) (fun hc => ?_)) <;> ((try simp only [decide_eq_true_eq, decide_eq_false_iff_not, Bool.not_eq_true', Bool.not_eq_false', Int.not_lt, Int.not_le, ne_eq, Decidable.not_not, beq_iff_eq, List.cons.injEq, and_true] at hc); (first | (exfalso; omega) | exact absurd True.intro hc | conv => whnf))) | ((with_reducible refine And.intro True.intro ?_); conv => whnf) | ((with_reducible refine CallX.all ?_); refine CallW.of_ok (kB _ (by rfl)) ?_; conv => whnf) | ((with_reducible refine CallX.all ?_); refine CallW.of_ok (kD _ rfl) ?_; conv => whnf) | ((with_reducible refine CallX.all ?_); refine CallW.of_ok (kO _ rfl) ?_; conv => whnf) | ((with_reducible refine And.intro ?hh ?_); (case hh => exact condA); conv => whnf) | fail))
        all_goals first | (refine ⟨[], ?_, rfl, rfl, trivial, trivs⟩; simp only [renV, renL]; (first | done | rfl | (simp; done) | (simp; omega) | grind)) | (exfalso; omega)
    · rw [if_neg h2]
      rw [decide_eq_false h2] at kD
      generalize mkF l (gdN S l k) = mk at *
      refine CallOk.run0 Try.func22 rfl rfl rfl rfl rfl (WpR.of_vc ?_)
      (conv => whnf); (repeat' (first | ((with_reducible refine ifb_mk (fun hc => ?_) (fun hc => ?_)) <;> ((try simp only [decide_eq_true_eq, decide_eq_false_iff_not, Bool.not_eq_true', Bool.not_eq_false', Int.not_lt, Int.not_le, ne_eq, Decidable.not_not, beq_iff_eq, List.cons.injEq, and_true] at hc); (first | (exfalso; omega) | exact absurd True.intro hc | conv => whnf))) | ((with_reducible refine And.intro True.intro ?_); conv => whnf) | ((with_reducible refine CallX.all ?_); refine CallW.of_ok (kB _ (by rfl)) ?_; conv => whnf) | ((with_reducible refine CallX.all ?_); refine CallW.of_ok (kD _ rfl) ?_; conv => whnf) | ((with_reducible refine And.intro ?hh ?_); (case hh => exact condA); conv => whnf) | fail))
      all_goals first | (refine ⟨[], ?_, rfl, rfl, trivial, trivs⟩; simp only [renV, renL]; (first | done | rfl | (simp; done) | (simp; omega) | grind)) | (exfalso; omega)
  · rw [if_neg h1]
    generalize mkF l (gdN S l k) = mk at *
    refine CallOk.run0 Try.func22 rfl rfl rfl rfl rfl (WpR.of_vc ?_)
    (conv => whnf); (repeat' (first | ((with_reducible refine ifb_mk (fun hc => ?_) (fun hc => ?_)) <;> ((try simp only [decide_eq_true_eq, decide_eq_false_iff_not, Bool.not_eq_true', Bool.not_eq_false', Int.not_lt, Int.not_le, ne_eq, Decidable.not_not, beq_iff_eq, List.cons.injEq, and_true] at hc); (first | (exfalso; omega) | exact absurd True.intro hc | conv => whnf))) | ((with_reducible refine And.intro True.intro ?_); conv => whnf) | ((with_reducible refine CallX.all ?_); refine CallW.of_ok (kB _ (by rfl)) ?_; conv => whnf) | ((with_reducible refine CallX.all ?_); refine CallW.of_ok (kD _ rfl) ?_; conv => whnf) | ((with_reducible refine And.intro ?hh ?_); (case hh => exact condA); conv => whnf) | fail))
    all_goals first | (refine ⟨[], ?_, rfl, rfl, trivial, trivs⟩; simp only [renV, renL]; (first | done | rfl | (simp; done) | (simp; omega) | grind)) | (exfalso; omega)
/-- CheckCircle: the error. -/
def ciE (S n : Nat) (a b : Nat → Int) (k : Nat) (l : Nat → Int) : Int := if 2 ≤ k ∧ k ≤ 10 then (if wiR 0 ((S : Int) - 1) k l = true then (if ciB (loT a b n) l k = true then 0 else 14) else 2) else 6
set_option maxHeartbeats 8000000 in
theorem checkCircle_ok (h : As.H) (S : Nat) (ex : Bool) (n : Nat) (a b : Nat → Int) (hv : ckB S n a b = 0) (ex2 : Bool) (k : Nat) (hk : k ≤ 9223372036854775807) (l : Nat → Int) :
    CallOk Try.prog 24 [bkV S ex n a b, .rsl ex2 1 k (iG l)] h (.int .i64 (ciE S n a b k l)) h := by
  obtain ⟨hS, hn, hok⟩ := ckB_fine hv
  have kB : ∀ (h' : As.H) (s : Nat), s = h'.n + 0 → _ := fun h' s e => by
    have := skyFor_new h' S ex n a b hv
    rw [← e] at this
    exact this
  have hTb := loT_tb (a := a) (b := b) (n := n) hS.2 hok
  unfold ciE
  generalize clo (loT a b n) = br at *
  generalize loT a b n = lk at *
  have kB := fun (h' : As.H) (e : 1 = h'.n + 0) => kB h' 1 e
  have k2 := fun h' sv hs => within1_ok h' 2 10 (k : Int) sv hs
  have kW := fun h' => withinR_ok h' 0 ((S : Int) - 1) k l ex2 hk
  have kC := fun (h' : As.H) (hk1 : k ≤ 1000) hl hs => isCircle_ok h' 1 (S : Int) (.rsl ex 2 n (lkG a b)) rfl lk br hTb (fun _ => false) ex2 k hk1 l hl hs
  by_cases h1 : 2 ≤ k ∧ k ≤ 10
  · rw [if_pos h1]
    rw [decide_eq_true (by omega)] at k2
    by_cases h2 : wiR 0 ((S : Int) - 1) k l = true
    · rw [if_pos h2]
      rw [h2] at kW
      have hr : ∀ j, j < k → 0 ≤ l j ∧ l j < 10 := fun j hj => by have := of_decide_eq_true (allF_iff.1 h2 j hj); omega
      have kC := fun h' => kC h' (by omega) hr
      cases ho : ciB lk l k with
      | true =>
        rw [ho] at kC
        rw [if_pos rfl]
        refine CallOk.run0 Try.func24 rfl rfl rfl rfl rfl (WpR.of_vc ?_)
        (conv => whnf); (repeat' (first | ((with_reducible refine ifb_mk (fun hc => ?_) (fun hc => ?_)) <;> ((try simp only [decide_eq_true_eq, decide_eq_false_iff_not, Bool.not_eq_true', Bool.not_eq_false', Int.not_lt, Int.not_le, ne_eq, Decidable.not_not, beq_iff_eq, List.cons.injEq, and_true] at hc); (first | (exfalso; omega) | exact absurd True.intro hc | conv => whnf))) | ((with_reducible refine And.intro True.intro ?_); conv => whnf) | ((with_reducible refine CallX.all ?_); refine CallW.of_ok (kB _ (by rfl)) ?_; conv => whnf) | ((with_reducible refine CallX.all ?_); refine CallW.of_ok (k2 _ _ (SlC.own rfl)) ?_; conv => whnf) | ((with_reducible refine CallX.all ?_); refine CallW.of_ok (kW _) ?_; conv => whnf) | ((with_reducible refine CallX.all ?_); refine CallW.of_ok (kC _ rfl) ?_; conv => whnf) | ((with_reducible refine And.intro ?hh ?_); (case hh => exact condA); conv => whnf) | fail))
        all_goals first | (refine ⟨[], ?_, rfl, rfl, trivial, trivs⟩; simp only [renV, renL]; (first | done | rfl | (simp; done) | (simp; omega) | grind)) | (exfalso; omega)
      | false =>
        rw [ho] at kC
        rw [if_neg (by decide)]
        refine CallOk.run0 Try.func24 rfl rfl rfl rfl rfl (WpR.of_vc ?_)
        (conv => whnf); (repeat' (first | ((with_reducible refine ifb_mk (fun hc => ?_) (fun hc => ?_)) <;> ((try simp only [decide_eq_true_eq, decide_eq_false_iff_not, Bool.not_eq_true', Bool.not_eq_false', Int.not_lt, Int.not_le, ne_eq, Decidable.not_not, beq_iff_eq, List.cons.injEq, and_true] at hc); (first | (exfalso; omega) | exact absurd True.intro hc | conv => whnf))) | ((with_reducible refine And.intro True.intro ?_); conv => whnf) | ((with_reducible refine CallX.all ?_); refine CallW.of_ok (kB _ (by rfl)) ?_; conv => whnf) | ((with_reducible refine CallX.all ?_); refine CallW.of_ok (k2 _ _ (SlC.own rfl)) ?_; conv => whnf) | ((with_reducible refine CallX.all ?_); refine CallW.of_ok (kW _) ?_; conv => whnf) | ((with_reducible refine CallX.all ?_); refine CallW.of_ok (kC _ rfl) ?_; conv => whnf) | ((with_reducible refine And.intro ?hh ?_); (case hh => exact condA); conv => whnf) | fail))
        all_goals first | (refine ⟨[], ?_, rfl, rfl, trivial, trivs⟩; simp only [renV, renL]; (first | done | rfl | (simp; done) | (simp; omega) | grind)) | (exfalso; omega)
    · rw [if_neg h2]
      rw [Bool.not_eq_true] at h2
      rw [h2] at kW
      refine CallOk.run0 Try.func24 rfl rfl rfl rfl rfl (WpR.of_vc ?_)
      (conv => whnf); (repeat' (first | ((with_reducible refine ifb_mk (fun hc => ?_) (fun hc => ?_)) <;> ((try simp only [decide_eq_true_eq, decide_eq_false_iff_not, Bool.not_eq_true', Bool.not_eq_false', Int.not_lt, Int.not_le, ne_eq, Decidable.not_not, beq_iff_eq, List.cons.injEq, and_true] at hc); (first | (exfalso; omega) | exact absurd True.intro hc | conv => whnf))) | ((with_reducible refine And.intro True.intro ?_); conv => whnf) | ((with_reducible refine CallX.all ?_); refine CallW.of_ok (kB _ (by rfl)) ?_; conv => whnf) | ((with_reducible refine CallX.all ?_); refine CallW.of_ok (k2 _ _ (SlC.own rfl)) ?_; conv => whnf) | ((with_reducible refine CallX.all ?_); refine CallW.of_ok (kW _) ?_; conv => whnf) | ((with_reducible refine And.intro ?hh ?_); (case hh => exact condA); conv => whnf) | fail))
      all_goals first | (refine ⟨[], ?_, rfl, rfl, trivial, trivs⟩; simp only [renV, renL]; (first | done | rfl | (simp; done) | (simp; omega) | grind)) | (exfalso; omega)
  · rw [if_neg h1]
    rw [decide_eq_false (by omega)] at k2
    refine CallOk.run0 Try.func24 rfl rfl rfl rfl rfl (WpR.of_vc ?_)
    (conv => whnf); (repeat' (first | ((with_reducible refine ifb_mk (fun hc => ?_) (fun hc => ?_)) <;> ((try simp only [decide_eq_true_eq, decide_eq_false_iff_not, Bool.not_eq_true', Bool.not_eq_false', Int.not_lt, Int.not_le, ne_eq, Decidable.not_not, beq_iff_eq, List.cons.injEq, and_true] at hc); (first | (exfalso; omega) | exact absurd True.intro hc | conv => whnf))) | ((with_reducible refine And.intro True.intro ?_); conv => whnf) | ((with_reducible refine CallX.all ?_); refine CallW.of_ok (kB _ (by rfl)) ?_; conv => whnf) | ((with_reducible refine CallX.all ?_); refine CallW.of_ok (k2 _ _ (SlC.own rfl)) ?_; conv => whnf) | ((with_reducible refine And.intro ?hh ?_); (case hh => exact condA); conv => whnf) | fail))
    all_goals first | (refine ⟨[], ?_, rfl, rfl, trivial, trivs⟩; simp only [renV, renL]; (first | done | rfl | (simp; done) | (simp; omega) | grind)) | (exfalso; omega)
end Go.Proofs.J

