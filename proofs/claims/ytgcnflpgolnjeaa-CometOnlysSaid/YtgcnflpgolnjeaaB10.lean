/- What the functions answer that the laws call, one after another (B10). -/
import Derived.Test.YtgcnflpgolnjeaaAs6
import Derived.Test.YtgcnflpgolnjeaaB7
import Derived.Test.YtgcnflpgolnjeaaTh
import Derived.KernelRfl
set_option linter.unusedVariables false
set_option linter.unusedSimpArgs false
namespace Go.Proofs.K
open Go.As
set_option maxRecDepth 20000
theorem ptr_dom {m : M} {s : Nat} {l : List V} {xs : List Value} (h : VRs m (.ptr s 0 :: l) xs) : m s ≠ none := by
  obtain ⟨x, a', _, hx, _⟩ := h.uncons
  cases hx with
  | ptr hm => exact fun hc => by rw [hm] at hc; cases hc
theorem one_call {f : FuncId} {argsC : List V} {v : V} {L L' : List V} {h : As.H} {s : Nat} (hs : h.get s = some (.cells (ofL L 0) true none)) (hL : ∀ v ∈ L, bare0 v = true) (hL' : ∀ v ∈ L', bare0 v = true)
    (ha : ltL 1 argsC = true) (hp0 : argsC[0]? = some (.ptr 0 0)) (hv : bare v = true) (hcw : CallW Try.prog [] f argsC (hp [.cells (ofL L 0) true none]) (LowK v [.cells (ofL L' 0) true none])) :
    CallOk Try.prog f (renL (fun _ => s) argsC) h v (h.put s (.cells (ofL L' 0) true none)) := by
  have hlow1 := As.H.low_put h s (.cells (ofL L' 0) true none)
  refine CallOk.of_at (fun _ => s) hcw rfl (fun i j hi hj he => ?_) (fun k b hk => ?_) (fun k b hk => ?_) (fun i hi => ?_) rfl (by omega) (fun i hi => ?_) ha (fun base m w xs hr hvs k hk => ?_) hv
  · simp only [List.length_cons, List.length_nil] at hi hj; omega
  · match k, hk with
    | 0, hk => cases hk; exact ⟨_, hs, SubQ.ofL rfl hL (.inl rfl), ltB_ofLb hL, rfl⟩
    | k + 1, hk => simp at hk
  · match k, hk with
    | 0, hk =>
      cases hk
      refine ⟨_, by rw [As.H.get_put]; exact if_pos rfl, .cells fun j v' hv' => ⟨v', hv', ?_⟩, ltB_ofLb hL'⟩
      rw [get_ofL, if_pos (Nat.zero_le _), Nat.sub_zero] at hv'
      exact (renV_bare0 (hL' v' (List.mem_of_getElem? hv'))).symm
    | k + 1, hk => simp at hk
  · rw [As.H.get_put, if_neg (fun he => hi 0 (by simp) he.symm)]
  · rw [As.H.get_put, if_neg (by omega)]
  · cases argsC with
    | nil => simp at hp0
    | cons x l =>
      simp at hp0
      subst hp0
      exact ptr_dom (l := renL (fun _ => s) l) hvs
theorem one_view {h : As.H} {s : Nat} {L : List V} {w : Bool} {g : Option (Nat × Nat)} (hs : h.get s = some (.cells (ofL L 0) w g)) (hL : ∀ v ∈ L, bare0 v = true) : ViewM h [some (s, 0)] [.cells (ofL L 0) false none] := by
  refine viewM_of ⟨?_, trivial⟩ (fun k k' j o o' hk hk' hmp => ?_)
  · refine ⟨⟨rfl, rfl⟩, fun j o hj => ?_⟩
    cases hj
    refine ⟨_, _, _, hs, fun i d hd => ?_⟩
    rw [get_ofL, if_pos (Nat.zero_le _), Nat.sub_zero] at hd
    have hb := hL d (List.mem_of_getElem? hd)
    exact ⟨one_of_bare hb, d, by rw [Nat.zero_add]; exact get_ofL0 hd, .bare (by cases d <;> first | rfl | cases hb)⟩
  · obtain ⟨es, c, hg⟩ := hmp
    match k with
    | 0 => simp at hk; rw [← hk.1, hs] at hg; cases hg
    | k + 1 => simp at hk
def shF (D : Int) (lv : V) (mk : Nat → Bool) (k : Nat) : V := if k = 0 then .int .i64 D else if k = 1 then lv else .bool (mk (k - 2))
def shL (D : Int) (lv : V) (mk : Nat → Bool) : List V := arrV 14 (shF D lv mk)
noncomputable def shB (D : Int) (lv : V) (mk : Nat → Bool) : Blk := .cells (ofL (shL D lv mk) 0) true none
section
variable {D : Int} {lv : V} {mk mk' : Nat → Bool}
theorem shF_bare (hl : bare0 lv = true) (k : Nat) : bare0 (shF D lv mk k) = true := by
  unfold shF
  (repeat' split) <;> first | rfl | exact hl
theorem shL_bare (hl : bare0 lv = true) : ∀ v ∈ shL D lv mk, bare0 v = true := arrV_bare (shF_bare hl)
theorem sh_mk {o x : Nat} (ho : o = 2 + x) (hx : x < 12) : (ofL (shL D lv mk) 0).get o = some (.bool (mk x)) := by
  unfold shL
  rw [arrV_get rfl (by omega)]
  unfold shF
  rw [if_neg (by omega), if_neg (by omega), show o - 2 = x from by omega]
theorem sh_put {o x : Nat} (ho : o = 2 + x) (hx : x < 12) (hm : ∀ y, mk' y = if y = x then true else mk y) : putN [V.bool true] (ofL (shL D lv mk) 0) o = some (ofL (shL D lv mk') 0) := by
  rw [putN_cons, sh_mk ho hx]
  subst ho
  have e : mk' = fun y => if y = x then true else mk y := funext hm
  subst e
  have h12 : x = 0 ∨ x = 1 ∨ x = 2 ∨ x = 3 ∨ x = 4 ∨ x = 5 ∨ x = 6 ∨ x = 7 ∨ x = 8 ∨ x = 9 ∨ x = 10 ∨ x = 11 := by omega
  rcases h12 with rfl | rfl | rfl | rfl | rfl | rfl | rfl | rfl | rfl | rfl | rfl | rfl <;> rfl
end
theorem sheetFor_new (h : As.H) (D : Int) (ex : Bool) (n : Nat) (a b : Nat → Int) (hn : n ≤ 9223372036854775807) (hv : ckL D n a b = 0) :
    CallOk Try.prog 59 [lgV D ex n a b] h (.tup [.ptr (h.n + 0) 0, .int .i64 0]) (addBs h [shB D (.rsl ex 2 n (lkG a b)) fun _ => false]) := by
  have k1 := fun h' => checkLog_ok h' D ex n a b hn
  rw [hv] at k1
  have hself : ∀ ρ : Nat → Nat, SubQ ρ (shB D (.rsl ex 2 n (lkG a b)) fun _ => false) (shB D (.rsl ex 2 n (lkG a b)) fun _ => false) := fun ρ => SubQ.ofL rfl (shL_bare rfl) (.inl rfl)
  refine CallOk.runN Try.func59 rfl rfl (argsC := [lgV D ex n a b]) (fun N => .tup [.ptr (N + 0) 0, .int .i64 0]) (fun N => [shB D (.rsl ex 2 n (lkG a b)) fun _ => false]) (Nat.le_of_ble_eq_true rfl) [] (.cons (.lt0 rfl) .nil) (viewM0 h) (ShV.tup (.cons (.ptr (i := 0) (Nat.le_of_ble_eq_true rfl) rfl rfl) (.cons (.bare rfl) .nil))) rfl (fun i b hi => ?_) (WpR.of_vc ?_)
  · match i, hi with
    | 0, hi => cases hi; exact ⟨_, rfl, rfl, .bare (ofL_bare (shL_bare rfl))⟩
    | i + 1, hi => simp at hi
  · (conv => whnf); (repeat' (first | ((with_reducible refine ifb_mk (fun hc => ?_) (fun hc => ?_)) <;> ((try simp only [decide_eq_true_eq, decide_eq_false_iff_not, Bool.not_eq_true', Bool.not_eq_false', Int.not_lt, Int.not_le, ne_eq, Decidable.not_not, beq_iff_eq, List.cons.injEq, and_true] at hc); (first | (exfalso; omega) | exact absurd True.intro hc | conv => whnf))) | ((with_reducible refine And.intro True.intro ?_); conv => whnf) | ((with_reducible refine CallX.all ?_); refine CallW.of_ok (k1 _) ?_; conv => whnf) | ((with_reducible refine And.intro ?hh ?_); (case hh => exact condA); conv => whnf) | fail))
    all_goals exact ⟨[1], rfl, rfl, rfl, ⟨⟨_, rfl, rfl, hself _⟩, ltB_ofLb (shL_bare rfl), rfl, trivial⟩, trivs⟩
theorem sheetFor_err (h : As.H) (D : Int) (ex : Bool) (n : Nat) (a b : Nat → Int) (hn : n ≤ 9223372036854775807) (he : ckL D n a b ≠ 0) : CallOk Try.prog 59 [lgV D ex n a b] h (.tup [.nilp, .int .i64 (ckL D n a b)]) h := by
  have k1 := fun h' => checkLog_ok h' D ex n a b hn
  generalize ckL D n a b = e at *
  refine CallOk.run0 Try.func59 rfl rfl rfl rfl rfl (WpR.of_vc ?_)
  (conv => whnf); (repeat' (first | ((with_reducible refine ifb_mk (fun hc => ?_) (fun hc => ?_)) <;> ((try simp only [decide_eq_true_eq, decide_eq_false_iff_not, Bool.not_eq_true', Bool.not_eq_false', Int.not_lt, Int.not_le, ne_eq, Decidable.not_not, beq_iff_eq, List.cons.injEq, and_true] at hc); (first | (exfalso; omega) | exact absurd True.intro hc | conv => whnf))) | ((with_reducible refine And.intro True.intro ?_); conv => whnf) | ((with_reducible refine CallX.all ?_); refine CallW.of_ok (k1 _) ?_; conv => whnf) | ((with_reducible refine And.intro ?hh ?_); (case hh => exact condA); conv => whnf) | fail))
  all_goals first | (refine ⟨[], ?_, rfl, rfl, trivial, trivs⟩; simp only [renV, renL]; (first | done | rfl | (simp; done) | (simp; omega) | grind)) | exact absurd (by assumption) he
def psF (p : Nat → Int) (a b : Nat → Int) (i : Nat) : Bool := decide (plc p (a i).toNat 4 = b i)
theorem passes_ok (h : As.H) (p : Nat → Int) (hpS : Sm 8796093022208 4 p) (x y : Int) (hx : 0 ≤ x ∧ x ≤ 60) : CallOk Try.prog 83 [crV p, .agg [.int .i64 x, .int .i64 y]] h (.bool (decide (plc p x.toNat 4 = y))) h := by
  obtain ⟨d, rfl⟩ : ∃ d : Nat, x = d := ⟨x.toNat, by omega⟩
  have k1 := fun h' => place_ok h' p d (by omega) hpS
  rw [show (d : Int).toNat = d from rfl]
  generalize plc p d 4 = z at *
  by_cases e : z = y
  · rw [decide_eq_true e]
    refine CallOk.run0 Try.func83 rfl rfl rfl rfl rfl (WpR.of_vc ?_)
    (conv => whnf); (repeat' (first | ((with_reducible refine ifb_mk (fun hc => ?_) (fun hc => ?_)) <;> ((try simp only [decide_eq_true_eq, decide_eq_false_iff_not, Bool.not_eq_true', Bool.not_eq_false', Int.not_lt, Int.not_le, ne_eq, Decidable.not_not, beq_iff_eq, List.cons.injEq, and_true] at hc); (first | (exfalso; omega) | exact absurd True.intro hc | conv => whnf))) | ((with_reducible refine And.intro True.intro ?_); conv => whnf) | ((with_reducible refine CallX.all ?_); refine CallW.of_ok (k1 _) ?_; conv => whnf) | ((with_reducible refine grd_ex ?_); refine ex_ok (k1 _) ?_; conv => whnf) | ((with_reducible refine WpR.draw (id := 1) mixed [0, 1, 2, 4, 5, 3, 6, 7] [0, 0, 2, 7, 0, 16, 63, 127] ?hh ?_); (case hh => kernel_rfl); conv => whnf) | ((with_reducible refine And.intro ?hh ?_); (case hh => exact condA); conv => whnf) | fail))
    all_goals first | (refine ⟨[], ?_, rfl, rfl, trivial, trivs⟩; simp only [renV, renL]; (first | done | rfl | (simp; done) | (simp; omega) | grind)) | (exfalso; omega)
  · rw [decide_eq_false e]
    refine CallOk.run0 Try.func83 rfl rfl rfl rfl rfl (WpR.of_vc ?_)
    (conv => whnf); (repeat' (first | ((with_reducible refine ifb_mk (fun hc => ?_) (fun hc => ?_)) <;> ((try simp only [decide_eq_true_eq, decide_eq_false_iff_not, Bool.not_eq_true', Bool.not_eq_false', Int.not_lt, Int.not_le, ne_eq, Decidable.not_not, beq_iff_eq, List.cons.injEq, and_true] at hc); (first | (exfalso; omega) | exact absurd True.intro hc | conv => whnf))) | ((with_reducible refine And.intro True.intro ?_); conv => whnf) | ((with_reducible refine CallX.all ?_); refine CallW.of_ok (k1 _) ?_; conv => whnf) | ((with_reducible refine grd_ex ?_); refine ex_ok (k1 _) ?_; conv => whnf) | ((with_reducible refine WpR.draw (id := 1) mixed [0, 1, 2, 4, 5, 3, 6, 7] [0, 0, 2, 7, 0, 16, 63, 127] ?hh ?_); (case hh => kernel_rfl); conv => whnf) | ((with_reducible refine And.intro ?hh ?_); (case hh => exact condA); conv => whnf) | fail))
    all_goals first | (refine ⟨[], ?_, rfl, rfl, trivial, trivs⟩; simp only [renV, renL]; (first | done | rfl | (simp; done) | (simp; omega) | grind)) | (exfalso; omega)
def cnF (ps : Nat → Bool) : Nat → Nat
  | 0 => 0
  | i + 1 => cnF ps i + (if ps i = true then 1 else 0)
theorem cnF_le (ps : Nat → Bool) : ∀ i, cnF ps i ≤ i
  | 0 => Nat.le_refl _
  | i + 1 => by have := cnF_le ps i; unfold cnF; split <;> omega
def mkP (ps : Nat → Bool) (i : Nat) : Nat → Bool := fun k => decide (k < i) && ps k
set_option maxHeartbeats 8000000 in
theorem draw_w (D : Int) (ex : Bool) (n : Nat) (hn : n ≤ 12) (a b : Nat → Int) (ha : ∀ i, i < n → 0 ≤ a i ∧ a i ≤ 60) (p : Nat → Int) (hpS : Sm 8796093022208 4 p) (mk0 : Nat → Bool) :
    CallW Try.prog [] 66 [.ptr 0 0, crV p] (hp [shB D (.rsl ex 2 n (lkG a b)) mk0]) (LowK (.int .i64 (cnF (psF p a b) n)) [shB D (.rsl ex 2 n (lkG a b)) (mkP (psF p a b) n)]) := by
  refine CallW.inline (f := 66) Try.func66 rfl rfl (Nat.le_of_ble_eq_true rfl) (WpR.of_vc ?_)
  have kP := fun i (hi : i < n) h' => passes_ok h' p hpS (a i) (b i) (ha i hi)
  have hps : ∀ i, psF p a b i = decide (plc p (a i).toNat 4 = b i) := fun i => rfl
  simp only [← hps] at kP
  generalize psF p a b = ps at *
  have hm0 : mkP ps 0 = fun _ => false := funext fun k => by unfold mkP; rw [decide_eq_false (Nat.not_lt_zero k)]; rfl
  have hmt : ∀ i, ps i = true → ∀ y, mkP ps (i + 1) y = if y = i then true else mkP ps i y := fun i hi y => by
    unfold mkP
    by_cases e : y = i
    · subst e; rw [if_pos rfl, decide_eq_true (by omega), hi]; rfl
    · rw [if_neg e]; congr 1; rw [Bool.eq_iff_iff]; simp; omega
  have hmf : ∀ i, ps i = false → mkP ps (i + 1) = mkP ps i := fun i hi => funext fun y => by
    unfold mkP
    by_cases e : y = i
    · subst e; rw [hi]; simp
    · congr 1; rw [Bool.eq_iff_iff]; simp; omega
  have hct : ∀ i, ps i = true → cnF ps (i + 1) = cnF ps i + 1 := fun i hi => by
    have : cnF ps (i + 1) = cnF ps i + (if ps i = true then 1 else 0) := rfl
    rw [this, if_pos hi]
  have hcf : ∀ i, ps i = false → cnF ps (i + 1) = cnF ps i := fun i hi => by
    have : cnF ps (i + 1) = cnF ps i + (if ps i = true then 1 else 0) := rfl
    rw [this, hi]; rfl
  have hcl := cnF_le ps
  have hc0 : cnF ps 0 = 0 := rfl
  generalize cnF ps = cn at *
  generalize mkP ps = mp at *
  have hMap : ∀ mk, ltB 1000 (shB D (.rsl ex 2 n (lkG a b)) mk) := fun mk => ltB_ofLb (shL_bare rfl)
  have hMap2 : ∀ mk, ltB 2 (shB D (.rsl ex 2 n (lkG a b)) mk) := fun mk => ltB_ofLb (shL_bare rfl)
  have hMapA : ∀ mk, ltB 1 (shB D (.rsl ex 2 n (lkG a b)) mk) := fun mk => ltB_ofLb (shL_bare rfl)
  have hself : ∀ mk, SubQ id (shB D (.rsl ex 2 n (lkG a b)) mk) (shB D (.rsl ex 2 n (lkG a b)) mk) := fun mk => SubQ.ofL rfl (shL_bare rfl) (.inl rfl)
  have hself0 : ∀ ρ : Nat → Nat, SubQ ρ (shB D (.rsl ex 2 n (lkG a b)) fun _ => false) (shB D (.rsl ex 2 n (lkG a b)) fun _ => false) := fun ρ => SubQ.ofL rfl (shL_bare rfl) (.inl rfl)
  (conv => whnf); (repeat' (first | ((with_reducible refine ifb_mk (fun hc => ?_) (fun hc => ?_)) <;> ((try simp only [decide_eq_true_eq, decide_eq_false_iff_not, Bool.not_eq_true', Bool.not_eq_false', Int.not_lt, Int.not_le, ne_eq, Decidable.not_not, beq_iff_eq, List.cons.injEq, and_true] at hc); (first | (exfalso; omega) | exact absurd True.intro hc | conv => whnf))) | ((with_reducible refine And.intro True.intro ?_); conv => whnf) | ((with_reducible refine And.intro ?hh ?_); (case hh => exact condA); conv => whnf) | fail))
  refine WpR.loopA (ι := Nat × Int) [] [0, 3, 16, 17] [0] [] 2 (fun q => [(18, .int .i64 q.1), (5, .int .i64 q.2)]) (fun q => [(0, shB D (.rsl ex 2 n (lkG a b)) (mp q.1))]) (fun q => n - q.1) (fun q => q.1 ≤ n ∧ q.2 = cn q.1) ?_ ((0, 0)) (⟨Nat.zero_le _, by rw [hc0]; rfl⟩) [] ⟨rfl, rfl, (by (repeat' (first | exact True.intro | rfl | exact gr_ren rfl | exact aV_ren rfl | exact aW_ren rfl rfl | refine And.intro ?_ ?_))), (by (repeat' (first | exact True.intro | rfl | exact gr_ren rfl | exact aV_ren rfl | exact aW_ren rfl rfl | refine And.intro ?_ ?_))), (by (repeat' (first | exact True.intro | rfl | exact gr_ren rfl | exact aV_ren rfl | exact aW_ren rfl rfl | refine And.intro ?_ ?_))), ⟨.inr ⟨_, rfl, by rw [hm0]; exact hself0 _⟩, trivial⟩, rfl, rfl⟩
  rintro ⟨i, c⟩ ⟨j1, j2⟩
  dsimp only at j1 j2
  refine WpR.of_vc ?_
  by_cases hi : i < n
  · have kPi := kP i hi
    have hcli := hcl i
    cases hb : ps i with
    | true =>
      rw [hb] at kPi
      have hct := hct i hb
      have hput := fun o (ho : o = 2 + i) => sh_put (D := D) (lv := .rsl ex 2 n (lkG a b)) (mk := mp i) (mk' := mp (i + 1)) ho (by omega) (hmt i hb)
      (conv => whnf); (repeat' (first | ((with_reducible refine ifb_mk (fun hc => ?_) (fun hc => ?_)) <;> ((try simp only [decide_eq_true_eq, decide_eq_false_iff_not, Bool.not_eq_true', Bool.not_eq_false', Int.not_lt, Int.not_le, ne_eq, Decidable.not_not, beq_iff_eq, List.cons.injEq, and_true] at hc); (first | (exfalso; omega) | exact absurd True.intro hc | conv => whnf))) | ((with_reducible refine And.intro True.intro ?_); conv => whnf) | ((with_reducible refine grd_and ?_); refine And.intro (hi) ?_; conv => whnf) | ((with_reducible refine CallX.all ?_); refine CallW.of_ok (kPi _) ?_; conv => whnf) | ((with_reducible refine grd_putN ?_); refine som_mk (a := ?_) ?hh ?_; (case hh => exact hput _ (by show 2 + Int.toNat (i : Int) * 1 = 2 + i; omega)); conv => whnf) | ((with_reducible refine And.intro ?hh ?_); (case hh => exact condA); conv => whnf) | fail))
      all_goals first | (exfalso; omega) | exact ⟨(i + 1, c + 1), [], by dsimp only; omega, ⟨by dsimp only; omega, by dsimp only; omega⟩, Back.auto⟩
    | false =>
      rw [hb] at kPi
      have hcf := hcf i hb
      have hmf := hmf i hb
      (conv => whnf); (repeat' (first | ((with_reducible refine ifb_mk (fun hc => ?_) (fun hc => ?_)) <;> ((try simp only [decide_eq_true_eq, decide_eq_false_iff_not, Bool.not_eq_true', Bool.not_eq_false', Int.not_lt, Int.not_le, ne_eq, Decidable.not_not, beq_iff_eq, List.cons.injEq, and_true] at hc); (first | (exfalso; omega) | exact absurd True.intro hc | conv => whnf))) | ((with_reducible refine And.intro True.intro ?_); conv => whnf) | ((with_reducible refine grd_and ?_); refine And.intro (hi) ?_; conv => whnf) | ((with_reducible refine CallX.all ?_); refine CallW.of_ok (kPi _) ?_; conv => whnf) | ((with_reducible refine And.intro ?hh ?_); (case hh => exact condA); conv => whnf) | fail))
      all_goals first | (exfalso; omega) | skip
      refine ⟨(i + 1, c), [], by dsimp only; omega, ⟨by dsimp only; omega, by dsimp only; omega⟩, ?_⟩
      dsimp only
      rw [hmf]
      exact Back.auto
  · have e : i = n := by omega
    subst e
    (conv => whnf); (repeat' (first | ((with_reducible refine ifb_mk (fun hc => ?_) (fun hc => ?_)) <;> ((try simp only [decide_eq_true_eq, decide_eq_false_iff_not, Bool.not_eq_true', Bool.not_eq_false', Int.not_lt, Int.not_le, ne_eq, Decidable.not_not, beq_iff_eq, List.cons.injEq, and_true] at hc); (first | (exfalso; omega) | exact absurd True.intro hc | conv => whnf))) | ((with_reducible refine And.intro True.intro ?_); conv => whnf) | ((with_reducible refine grd_and ?_); refine And.intro (hi) ?_; conv => whnf) | ((with_reducible refine And.intro ?hh ?_); (case hh => exact condA); conv => whnf) | fail))
    all_goals first | (exfalso; omega) | exact ⟨by rw [j2], ⟨⟨_, rfl, hself _⟩, trivial⟩⟩
theorem draw_ok (h : As.H) (s : Nat) (D : Int) (ex : Bool) (n : Nat) (hn : n ≤ 12) (a b : Nat → Int) (ha : ∀ i, i < n → 0 ≤ a i ∧ a i ≤ 60) (p : Nat → Int) (hpS : Sm 8796093022208 4 p) (mk0 : Nat → Bool) (hs : h.get s = some (shB D (.rsl ex 2 n (lkG a b)) mk0)) :
    CallOk Try.prog 66 [.ptr s 0, crV p] h (.int .i64 (cnF (psF p a b) n)) (h.put s (shB D (.rsl ex 2 n (lkG a b)) (mkP (psF p a b) n))) :=
  one_call (argsC := [.ptr 0 0, crV p]) hs (shL_bare rfl) (shL_bare rfl) rfl rfl rfl (draw_w D ex n hn a b ha p hpS mk0)
end Go.Proofs.K
namespace Go.Proofs.K
open Go.As
set_option maxRecDepth 20000
theorem wrap16 {r : Int} (h : 0 ≤ r ∧ r < 65536) : IntKind.u16.wrap r = r := by
  have e : IntKind.u16.wrap r = r % 65536 := by simp [IntKind.wrap, IntKind.bits, IntKind.signed]
  rw [e]; omega
section
variable {P : Program} {t : TypeId} {x y : Operand}
end
theorem andRaw {a b : Nat} (ha : a < 65536) (hb : b < 65536) : IntKind.u16.wrap (((BitVec.ofInt IntKind.u16.bits (a : Int) &&& BitVec.ofInt IntKind.u16.bits (b : Int)).toNat : Nat) : Int) = ((a &&& b : Nat) : Int) := by
  have e : (BitVec.ofInt IntKind.u16.bits (a : Int) &&& BitVec.ofInt IntKind.u16.bits (b : Int)).toNat = a &&& b := by
    show (BitVec.ofInt 16 (a : Int) &&& BitVec.ofInt 16 (b : Int)).toNat = _
    rw [BitVec.toNat_and, BitVec.ofInt_natCast, BitVec.ofInt_natCast, BitVec.toNat_ofNat, BitVec.toNat_ofNat, Nat.mod_eq_of_lt ha, Nat.mod_eq_of_lt hb]
  have hlt : a &&& b < 65536 := Nat.lt_of_le_of_lt Nat.and_le_left ha
  rw [e]
  exact wrap16 ⟨by omega, by omega⟩
theorem shrRaw {a s : Nat} (hs : s < 16) : (a : Int).fdiv (2 ^ min (s : Int).toNat IntKind.u16.bits) = ((a >>> s : Nat) : Int) := by
  have hm : min (s : Int).toNat (IntKind.u16).bits = s := by show min (s : Int).toNat 16 = s; omega
  rw [hm, Int.fdiv_eq_ediv_of_nonneg _ (show (0 : Int) ≤ 2 ^ s from by have : (0 : Int) < 2 ^ s := Int.pow_pos (by decide); omega), Nat.shiftRight_eq_div_pow]
  simp
theorem shlRaw {s : Nat} (hs : s < 16) : IntKind.u16.wrap (1 * 2 ^ min (s : Int).toNat IntKind.u16.bits) = ((2 ^ s : Nat) : Int) := by
  have hp : 2 ^ s < 65536 := Nat.pow_lt_pow_right (a := 2) (by omega) hs
  have hm : min (s : Int).toNat (IntKind.u16).bits = s := by show min (s : Int).toNat 16 = s; omega
  rw [hm, Int.one_mul, show ((2 : Int) ^ s) = ((2 ^ s : Nat) : Int) from by simp]
  generalize 2 ^ s = z at *
  exact wrap16 ⟨by omega, by omega⟩
end Go.Proofs.K
namespace Go.Proofs.K
open Go.As
set_option maxRecDepth 20000
theorem bit_shr (g s : Nat) : (((g >>> s &&& 1 : Nat) : Int) == 1) = g.testBit s := by
  unfold Nat.testBit
  have h : 1 &&& g >>> s = (g >>> s) % 2 := by rw [Nat.and_comm]; exact Nat.and_one_is_mod _
  rw [Nat.and_comm, h]
  rcases Nat.mod_two_eq_zero_or_one (g >>> s) with e | e <;> rw [e] <;> rfl
theorem shr_lt {g s : Nat} (hg : g < 65536) : g >>> s < 65536 := Nat.lt_of_le_of_lt (by rw [Nat.shiftRight_eq_div_pow]; exact Nat.div_le_self _ _) hg
theorem has_ok (h : As.H) (g s : Nat) (hg : g < 65536) (hs : s < 16) : CallOk Try.prog 92 [.int .u16 g, .int .i64 s] h (.bool (g.testBit s)) h := by
  have e1 := andRaw (a := g >>> s) (b := 1) (shr_lt hg) (by decide)
  have e2 := shrRaw (a := g) hs
  have e3 := bit_shr g s
  rw [← e3, ← e1, ← e2]
  refine CallOk.run0 Try.func92 rfl rfl rfl rfl rfl (WpR.of_vc ?_)
  (conv => whnf); (repeat' (first | ((with_reducible refine ifb_mk (fun hc => ?_) (fun hc => ?_)) <;> ((try simp only [decide_eq_true_eq, decide_eq_false_iff_not, Bool.not_eq_true', Bool.not_eq_false', Int.not_lt, Int.not_le, ne_eq, Decidable.not_not, beq_iff_eq, List.cons.injEq, and_true] at hc); (first | (exfalso; omega) | exact absurd True.intro hc | conv => whnf))) | ((with_reducible refine And.intro True.intro ?_); conv => whnf) | ((with_reducible refine And.intro ?hh ?_); (case hh => exact condA); conv => whnf) | fail))
  all_goals (refine ⟨[], ?_, rfl, rfl, trivial, trivs⟩; simp only [renV, renL]; (first | done | rfl))
def pcN (g : Nat) : Nat → Nat := cnF g.testBit
theorem cnF_congr {p q : Nat → Bool} : ∀ n, (∀ i, i < n → p i = q i) → cnF p n = cnF q n
  | 0, _ => rfl
  | n + 1, h => by unfold cnF; rw [cnF_congr n (fun i hi => h i (by omega)), h n (by omega)]
theorem cnF_add (p : Nat → Bool) (a : Nat) : ∀ n, cnF p (a + n) = cnF p a + cnF (fun i => p (a + i)) n
  | 0 => rfl
  | n + 1 => by
    have e : cnF p (a + (n + 1)) = cnF p (a + n) + (if p (a + n) = true then 1 else 0) := rfl
    rw [e, cnF_add p a n, Nat.add_assoc]
    rfl
theorem pc_split (g : Nat) : pcN g 16 = pcN (g >>> 8) 8 + pcN (g &&& 255) 8 := by
  have h1 := cnF_add g.testBit 8 8
  have h2 : cnF (fun i => g.testBit (8 + i)) 8 = pcN (g >>> 8) 8 := cnF_congr 8 fun i _ => by rw [Nat.testBit_shiftRight]
  have h3 : cnF g.testBit 8 = pcN (g &&& 255) 8 := cnF_congr 8 fun i hi => by
    rw [Nat.testBit_and]
    have : Nat.testBit 255 i = true := by
      match i, hi with
      | 0, _ => rfl
      | 1, _ => rfl
      | 2, _ => rfl
      | 3, _ => rfl
      | 4, _ => rfl
      | 5, _ => rfl
      | 6, _ => rfl
      | 7, _ => rfl
    rw [this, Bool.and_true]
  unfold pcN at h2 h3 ⊢
  rw [h1, h2, h3]
  omega
theorem pc_tab {T : List UInt8} {g x : Nat} (hg : g < 65536) (hx : x = g &&& 255) (hT : ∀ k, k < 256 → byteAt T k = (pcN k 8 : Int)) : IntKind.i64.wrap (IntKind.u8.wrap (byteAt T (g >>> 8) + byteAt T x)) = (pcN g 16 : Int) := by
  have l1 : g >>> 8 < 256 := by rw [Nat.shiftRight_eq_div_pow]; exact Nat.div_lt_of_lt_mul (by omega)
  have l2 : g &&& 255 < 256 := Nat.lt_of_le_of_lt Nat.and_le_right (by decide)
  subst hx
  rw [hT _ l1, hT _ l2, pc_split g]
  have b1 : pcN (g >>> 8) 8 ≤ 8 := cnF_le _ _
  have b2 : pcN (g &&& 255) 8 ≤ 8 := cnF_le _ _
  generalize pcN (g >>> 8) 8 = u at *
  generalize pcN (g &&& 255) 8 = v at *
  have e1 : IntKind.u8.wrap ((u : Int) + v) = (u : Int) + v := by
    have e : IntKind.u8.wrap ((u : Int) + v) = ((u : Int) + v) % 256 := by simp [IntKind.wrap, IntKind.bits, IntKind.signed]
    rw [e]; omega
  rw [e1, wrap_in (inR_of (by unfold InR; omega))]
  omega
set_option maxHeartbeats 4000000 in
theorem size_ok (h : As.H) (g : Nat) (hg : g < 65536) : CallOk Try.prog 97 [.int .u16 g] h (.int .i64 (pcN g 16)) h := by
  refine CallOk.run0 Try.func97 rfl rfl rfl rfl rfl (WpR.of_vc ?_)
  have e1 : (g : Int).fdiv (2 ^ min (Int.toNat 8) IntKind.u16.bits) = ((g >>> 8 : Nat) : Int) := shrRaw (a := g) (s := 8) (by decide)
  have e2 := andRaw (a := g) (b := 255) hg (by decide)
  have l1 : g >>> 8 < 256 := by rw [Nat.shiftRight_eq_div_pow]; exact Nat.div_lt_of_lt_mul (by omega)
  have l2 : g &&& 255 < 256 := Nat.lt_of_le_of_lt Nat.and_le_right (by decide)
  have e3 : (BitVec.ofInt IntKind.u16.bits (g : Int) &&& BitVec.ofInt IntKind.u16.bits (255 : Int)).toNat % (2 ^ IntKind.u16.bits : Int).natAbs = g &&& 255 := Int.ofNat.inj e2
  have l3 : (BitVec.ofInt IntKind.u16.bits (g : Int) &&& BitVec.ofInt IntKind.u16.bits (255 : Int)).toNat % (2 ^ IntKind.u16.bits : Int).natAbs < 256 := by rw [e3]; exact l2
  (conv => whnf); (repeat' (first | ((with_reducible refine ifb_mk (fun hc => ?_) (fun hc => ?_)) <;> ((try simp only [decide_eq_true_eq, decide_eq_false_iff_not, Bool.not_eq_true', Bool.not_eq_false', Int.not_lt, Int.not_le, ne_eq, Decidable.not_not, beq_iff_eq, List.cons.injEq, and_true] at hc); (first | (exfalso; omega) | exact absurd True.intro hc | conv => whnf))) | ((with_reducible refine And.intro True.intro ?_); conv => whnf) | ((with_reducible refine WpR.draw (id := 1) mixed [0, 1, 2, 3, 4, 5, 6, 7, 8] [0, 1, 3, 0, 8, 24, 63, 127, 255] ?hh ?_); (case hh => kernel_rfl); conv => whnf) | (((with_reducible refine idxP_mk (k := g >>> 8) ?hh ?_); (case hh => exact e1)); conv => whnf) | (((with_reducible refine idxP_mk (k := g &&& 255) ?hh ?_); (case hh => exact e2)); conv => whnf) | ((with_reducible refine grd_and ?_); refine And.intro (l1) ?_; conv => whnf) | ((with_reducible refine grd_and ?_); refine And.intro (l3) ?_; conv => whnf) | ((with_reducible refine And.intro ?hh ?_); (case hh => exact condA); conv => whnf) | fail))
  refine ⟨[], ?_, rfl, rfl, trivial, trivs⟩
  simp only [renV, renL]
  refine congrArg (V.int .i64) (pc_tab hg e3 ?_)
  decide +kernel
theorem size2_ok (h : As.H) (g : Nat) (hg : g < 65536) : CallOk Try.prog 96 [.int .u16 g] h (.int .i64 (pcN g 16)) h := by
  have k1 := fun h' => size_ok h' g hg
  generalize pcN g 16 = z at *
  refine CallOk.run0 Try.func96 rfl rfl rfl rfl rfl (WpR.of_vc ?_)
  (conv => whnf); (repeat' (first | ((with_reducible refine ifb_mk (fun hc => ?_) (fun hc => ?_)) <;> ((try simp only [decide_eq_true_eq, decide_eq_false_iff_not, Bool.not_eq_true', Bool.not_eq_false', Int.not_lt, Int.not_le, ne_eq, Decidable.not_not, beq_iff_eq, List.cons.injEq, and_true] at hc); (first | (exfalso; omega) | exact absurd True.intro hc | conv => whnf))) | ((with_reducible refine And.intro True.intro ?_); conv => whnf) | ((with_reducible refine CallX.all ?_); refine CallW.of_ok (k1 _) ?_; conv => whnf) | ((with_reducible refine And.intro ?hh ?_); (case hh => exact condA); conv => whnf) | fail))
  all_goals first | (refine ⟨[], ?_, rfl, rfl, trivial, trivs⟩; simp only [renV, renL]; (first | done | rfl | (simp; done) | (simp; omega) | grind)) | (exfalso; omega)
end Go.Proofs.K
namespace Go.Proofs.K
open Go.As
set_option maxRecDepth 20000
def slF (p : Nat → Bool) (a : Nat → Int) : Nat → Nat → Int
  | 0 => fun _ => 0
  | i + 1 => if p i = true then (fun j => if j = cnF p i then a i else slF p a i j) else slF p a i
def rmF (X Y : Nat → Int) (c : Nat) : V := .int .i64 (if c % 2 = 0 then X (c / 2) else Y (c / 2))
def rmL (X Y : Nat → Int) : List V := arrV 8 (rmF X Y)
theorem rmL_bare {X Y : Nat → Int} : ∀ v ∈ rmL X Y, bare0 v = true := arrV_bare fun _ => rfl
theorem rm_put {X Y X' Y' : Nat → Int} {k o : Nat} {x y : Int} (hk : k < 4) (ho : o = k * 2) (hX : ∀ j, X' j = if j = k then x else X j) (hY : ∀ j, Y' j = if j = k then y else Y j) : putN [V.int .i64 x, .int .i64 y] (ofL (rmL X Y) 0) o = some (ofL (rmL X' Y') 0) := by
  have e1 : X' = fun j => if j = k then x else X j := funext hX
  have e2 : Y' = fun j => if j = k then y else Y j := funext hY
  subst e1; subst e2; subst ho
  have h4 : k = 0 ∨ k = 1 ∨ k = 2 ∨ k = 3 := by omega
  rcases h4 with rfl | rfl | rfl | rfl <;> rfl
theorem rm_at {X Y : Nat → Int} {j o : Nat} (hj : j < 4) (ho : o = j * 2) : (ofL (rmL X Y) 0).get o = some (.int .i64 (X j)) ∧ (ofL (rmL X Y) 0).get (o + 1) = some (.int .i64 (Y j)) := by
  subst ho
  have h4 : j = 0 ∨ j = 1 ∨ j = 2 ∨ j = 3 := by omega
  rcases h4 with rfl | rfl | rfl | rfl <;> exact ⟨rfl, rfl⟩
section
variable {p : Nat → Bool} {a b : Nat → Int}
theorem slF_yes {i : Nat} (h : p i = true) : cnF p (i + 1) = cnF p i + 1 ∧ ∀ j, slF p a (i + 1) j = if j = cnF p i then a i else slF p a i j := by
  constructor
  · have : cnF p (i + 1) = cnF p i + (if p i = true then 1 else 0) := rfl
    rw [this, if_pos h]
  · intro j
    have : slF p a (i + 1) = if p i = true then (fun j => if j = cnF p i then a i else slF p a i j) else slF p a i := rfl
    rw [this, if_pos h]
theorem slF_no {i : Nat} (h : p i = false) : cnF p (i + 1) = cnF p i ∧ slF p a (i + 1) = slF p a i := by
  constructor
  · have : cnF p (i + 1) = cnF p i + (if p i = true then 1 else 0) := rfl
    rw [this, h]; rfl
  · have : slF p a (i + 1) = if p i = true then (fun j => if j = cnF p i then a i else slF p a i j) else slF p a i := rfl
    rw [this, h]; rfl
theorem slF_mem : ∀ i j, j < cnF p i → ∃ m, m < i ∧ p m = true ∧ (∀ a, slF p a i j = a m) ∧ cnF p m = j
  | 0, j, h => absurd h (Nat.not_lt_zero _)
  | i + 1, j, h => by
    cases hb : p i with
    | true =>
      have e1 := fun a => (slF_yes (a := a) hb).2 j
      rw [(slF_yes (a := fun _ => 0) hb).1] at h
      by_cases e : j = cnF p i
      · exact ⟨i, by omega, hb, fun a => by rw [e1, if_pos e], e.symm⟩
      · obtain ⟨m, h1, h2, h3, h4⟩ := slF_mem i j (by omega)
        exact ⟨m, by omega, h2, fun a => by rw [e1, if_neg e, h3], h4⟩
    | false =>
      rw [(slF_no (a := fun _ => 0) hb).1] at h
      obtain ⟨m, h1, h2, h3, h4⟩ := slF_mem i j h
      exact ⟨m, by omega, h2, fun a => by rw [(slF_no hb).2, h3], h4⟩
theorem cnF_mono {m i : Nat} (h : m ≤ i) : cnF p m ≤ cnF p i := by
  induction i with
  | zero => have : m = 0 := by omega
            subst this; exact Nat.le_refl _
  | succ i ih =>
    by_cases e : m = i + 1
    · subst e; exact Nat.le_refl _
    · have := ih (by omega)
      have h2 : cnF p (i + 1) = cnF p i + (if p i = true then 1 else 0) := rfl
      omega
theorem slF_dy {n : Nat} (h4 : cnF p n ≤ 4) (h1 : ∀ i, i < n → 0 ≤ a i ∧ a i ≤ 60) (h2 : ∀ i j, i < n → j < i → a j < a i) : Dy (cnF p n) (slF p a n) where
  le := h4
  rg := fun j hj => by obtain ⟨m, g1, _, g3, _⟩ := slF_mem n j hj; rw [g3]; exact h1 m g1
  up := fun x y hx hy => by
    obtain ⟨m, g1, _, g3, g4⟩ := slF_mem n x hx
    obtain ⟨m', k1, _, k3, k4⟩ := slF_mem (p := p) n y (by omega)
    rw [g3, k3]
    refine h2 m m' g1 ?_
    apply Classical.byContradiction
    intro hc
    have := cnF_mono (p := p) (show m ≤ m' by omega)
    omega
theorem slF_pl {n : Nat} (h1 : ∀ i, i < n → -100000 ≤ b i ∧ b i ≤ 100000) : Pl (cnF p n) (slF p b n) := fun j hj => by obtain ⟨m, g1, _, g3, _⟩ := slF_mem n j hj; rw [g3]; exact h1 m g1
end
structure Lg (n : Nat) (a b : Nat → Int) : Prop where
  le : n ≤ 12
  rg : ∀ i, i < n → 0 ≤ a i ∧ a i ≤ 60
  up : ∀ i j, i < n → j < i → a j < a i
  at' : ∀ i, i < n → -100000 ≤ b i ∧ b i ≤ 100000
theorem ckL_lg {D : Int} {n : Nat} {a b : Nat → Int} (h : ckL D n a b = 0) : (0 ≤ D ∧ D ≤ 3) ∧ Lg n a b := by
  obtain ⟨h1, h2, h3, h4⟩ := ckL_ok h
  refine ⟨h1, h2, fun i hi => (h3 i hi).1, fun i j hi hj => ?_, fun i hi => (h3 i hi).2⟩
  have hc : ∀ d, j + d < n → 0 < d → a j < a (j + d) := fun d => by
    induction d with
    | zero => intro _ h; omega
    | succ d ih =>
      intro hd _
      have e := h4 (j + d) (by omega)
      by_cases e0 : d = 0
      · subst e0; exact e
      · have := ih (by omega) (by omega)
        rw [← Nat.add_assoc]; omega
  have := hc (i - j) (by omega) (by omega)
  rwa [show j + (i - j) = i from by omega] at this
theorem throughS_ok (h : As.H) (k : Nat) (X Y : Nat → Int) (hD : Dy k X) (hy : Pl k Y) (s cap : Nat) (ex : Bool) (hcap : k ≤ cap) (gg : Option (Nat × Nat)) (hs : h.get s = some (.cells (ofL (rmL X Y) 0) true gg)) :
    CallOk Try.prog 80 [.sl s 0 k cap ex] h (.tup [crV (thP k X Y), .bool (alW k X Y)]) h := by
  have h4 := hD.le
  refine CallOk.thaw (through_ok As.H.empty false k X Y hD hy) rfl h (.cons (.sl trivial hs (fun h => by cases h) hcap (fun j hj => rfl) fun j hj i v hv => ?_) .nil)
  obtain ⟨g1, g2⟩ := rm_at (X := X) (Y := Y) (j := j) (o := j * 2) (by omega) rfl
  match i with
  | 0 =>
    have e : V.int .i64 (X j) = v := by simpa [lkG] using hv
    subst e
    exact ⟨by rw [Nat.zero_add]; exact g1, rfl⟩
  | 1 =>
    have e : V.int .i64 (Y j) = v := by simpa [lkG] using hv
    subst e
    exact ⟨by rw [Nat.zero_add]; exact g2, rfl⟩
  | i + 2 => simp [lkG] at hv
theorem AppX.room {sz : Nat} {h : As.H} {n len cap b o : Nat} {ex : Bool} {r : List V} {c c' : Tr V} {g : Option (Nat × Nat)} {K : V → As.H → Prop} (hg : h.get b = some (.cells c true g)) (hle : len + n ≤ cap) (hp : putN r c (o + len * sz) = some c')
    (hK : K (.sl b o (len + n) cap ex) (h.put b (.cells c' true g))) : AppX sz h n r (.sl b o len cap ex) K := .all (by
  refine som_mk (a := (.sl b o (len + n) cap ex, h.put b (.cells c' true g))) ?_ hK
  unfold appendTo
  simp only [hg]
  rw [if_pos hle, hp])
end Go.Proofs.K
namespace Go.Proofs.K
open Go.As
set_option maxRecDepth 20000
set_option maxHeartbeats 16000000 in
theorem throughH_ok (h : As.H) (s : Nat) (D : Int) (ex : Bool) (n : Nat) (a b : Nat → Int) (l : Lg n a b) (g : Nat) (hg : g < 65536) (h4 : cnF g.testBit n ≤ 4) (mk : Nat → Bool) {w : Bool} {gg : Option (Nat × Nat)} (hs : h.get s = some (.cells (ofL (shL D (.rsl ex 2 n (lkG a b)) mk) 0) w gg)) :
    CallOk Try.prog 61 [.ptr s 0, .fn 92 [.int .u16 g] []] h (.tup [crV (thP (cnF g.testBit n) (slF g.testBit a n) (slF g.testBit b n)), .bool (alW (cnF g.testBit n) (slF g.testBit a n) (slF g.testBit b n))]) h := by
  have kM := fun i (hi : i < n) h' => has_ok h' g i hg (by have := l.le; omega)
  have hn := l.le
  generalize hP : g.testBit = P at *
  have kT := fun (h' : As.H) cap ex hcap gg hs => throughS_ok h' (cnF P n) (slF P a n) (slF P b n) (slF_dy h4 l.rg l.up) (slF_pl l.at') 2 cap ex hcap gg hs
  have hyes := fun i hi => slF_yes (p := P) (a := a) (i := i) hi
  have hyesb := fun i hi => (slF_yes (p := P) (a := b) (i := i) hi).2
  have hno := fun i hi => slF_no (p := P) (a := a) (i := i) hi
  have hnob := fun i hi => (slF_no (p := P) (a := b) (i := i) hi).2
  have hmono := fun i (hi : i ≤ n) => cnF_mono (p := P) hi
  have hz1 : slF P a 0 = fun _ => 0 := rfl
  have hz2 : slF P b 0 = fun _ => 0 := rfl
  have hz3 : cnF P 0 = 0 := rfl
  generalize thP (cnF P n) (slF P a n) (slF P b n) = T at *
  generalize alW (cnF P n) (slF P a n) (slF P b n) = W at *
  generalize slF P a = A at *
  generalize slF P b = B at *
  generalize cnF P = C at *
  have hMap : ∀ mk, ltB 3 (shB D (.rsl ex 2 n (lkG a b)) mk) := fun mk => ltB_ofLb (shL_bare rfl)
  have hMapA : ltB 3 (.cells (ofL (shL D (.rsl ex 2 n (lkG a b)) mk) 0) false none) := ltB_ofLb (shL_bare rfl)
  have hMapB : ltB 1000 (.cells (ofL (shL D (.rsl ex 2 n (lkG a b)) mk) 0) false none) := ltB_ofLb (shL_bare rfl)
  have hMap2 : ∀ (X Y : Nat → Int), ltB 3 (.cells (ofL (rmL X Y) 0) true none) := fun X Y => ltB_ofLb rmL_bare
  have hMapC : ∀ (X Y : Nat → Int), ltB 1000 (.cells (ofL (rmL X Y) 0) true none) := fun X Y => ltB_ofLb rmL_bare
  have hself0 : ∀ ρ : Nat → Nat, SubQ ρ (.cells (ofL (rmL (fun _ => 0) (fun _ => 0)) 0) true none) (.cells (ofL (rep 4 [V.int .i64 0, V.int .i64 0]) 0) true none) := fun ρ => SubQ.ofL rfl rmL_bare (.inl rfl)
  have hBare : ∀ v ∈ shL D (.rsl ex 2 n (lkG a b)) mk, bare0 v = true := shL_bare rfl
  refine CallOk.run Try.func61 rfl rfl (argsC := [.ptr 0 0, .fn 92 [.int .u16 g] []]) (Nat.le_of_ble_eq_true rfl) [some (s, 0)] (.cons (.ptr (i := 0) rfl) (.cons (CaL.fn (.cons (.bare rfl) .nil) .nil) .nil)) (one_view hs (shL_bare rfl)) rfl (WpR.of_vc ?_)
  (conv => whnf); (repeat' (first | ((with_reducible refine ifb_mk (fun hc => ?_) (fun hc => ?_)) <;> ((try simp only [decide_eq_true_eq, decide_eq_false_iff_not, Bool.not_eq_true', Bool.not_eq_false', Int.not_lt, Int.not_le, ne_eq, Decidable.not_not, beq_iff_eq, List.cons.injEq, and_true] at hc); (first | (exfalso; omega) | exact absurd True.intro hc | conv => whnf))) | ((with_reducible refine And.intro True.intro ?_); conv => whnf) | ((with_reducible refine And.intro ?hh ?_); (case hh => exact condA); conv => whnf) | fail))
  refine WpR.loopA (ι := Nat × Nat × (Nat → Int) × (Nat → Int)) [] [0, 1, 4, 5, 15, 16] [2] [] 3 (fun q => [(17, .int .i64 q.1), (7, .sl 2 0 q.2.1 4 true)]) (fun q => [(2, .cells (ofL (rmL q.2.2.1 q.2.2.2) 0) true none)]) (fun q => n - q.1) (fun q => q.1 ≤ n ∧ q.2.1 = C q.1 ∧ q.2.2.1 = A q.1 ∧ q.2.2.2 = B q.1) ?_ ((0, 0, (fun _ => 0), (fun _ => 0))) (⟨Nat.zero_le _, hz3.symm, hz1.symm, hz2.symm⟩) [] Back.auto
  rintro ⟨i, k, X, Y⟩ ⟨j1, j2, j3, j4⟩
  dsimp only at j1 j2 j3 j4
  refine WpR.of_vc ?_
  by_cases hi : i < n
  · have kMi := kM i hi
    cases hb : P i with
    | true =>
      rw [hb] at kMi
      have hy := hyes i hb
      have hyb := hyesb i hb
      have hm1 := hmono (i + 1) (by omega)
      rw [← j2, ← j3] at hy
      rw [← j2, ← j4] at hyb
      have hk4 : k < 4 := by omega
      have hput := rm_put (X := X) (Y := Y) (X' := A (i + 1)) (Y' := B (i + 1)) (k := k) (o := 0 + k * 2) (x := a i) (y := b i) hk4 (by omega) hy.2 hyb
      (conv => whnf); (repeat' (first | ((with_reducible refine ifb_mk (fun hc => ?_) (fun hc => ?_)) <;> ((try simp only [decide_eq_true_eq, decide_eq_false_iff_not, Bool.not_eq_true', Bool.not_eq_false', Int.not_lt, Int.not_le, ne_eq, Decidable.not_not, beq_iff_eq, List.cons.injEq, and_true] at hc); (first | (exfalso; omega) | exact absurd True.intro hc | conv => whnf))) | ((with_reducible refine And.intro True.intro ?_); conv => whnf) | ((with_reducible refine grd_and ?_); refine And.intro (hi) ?_; conv => whnf) | ((with_reducible refine CallX.all ?_); refine CallW.of_ok (kMi _) ?_; conv => whnf) | (refine AppX.room (n := 1) (len := k) rfl (by omega) hput ?_; conv => whnf) | ((with_reducible refine And.intro ?hh ?_); (case hh => exact condA); conv => whnf) | fail))
      all_goals first | (exfalso; omega) | exact ⟨(i + 1, k + 1, A (i + 1), B (i + 1)), [], by dsimp only; omega, ⟨by dsimp only; omega, hy.1.symm, rfl, rfl⟩, Back.auto⟩
    | false =>
      rw [hb] at kMi
      have hy := hno i hb
      have hyb := hnob i hb
      (conv => whnf); (repeat' (first | ((with_reducible refine ifb_mk (fun hc => ?_) (fun hc => ?_)) <;> ((try simp only [decide_eq_true_eq, decide_eq_false_iff_not, Bool.not_eq_true', Bool.not_eq_false', Int.not_lt, Int.not_le, ne_eq, Decidable.not_not, beq_iff_eq, List.cons.injEq, and_true] at hc); (first | (exfalso; omega) | exact absurd True.intro hc | conv => whnf))) | ((with_reducible refine And.intro True.intro ?_); conv => whnf) | ((with_reducible refine grd_and ?_); refine And.intro (hi) ?_; conv => whnf) | ((with_reducible refine CallX.all ?_); refine CallW.of_ok (kMi _) ?_; conv => whnf) | ((with_reducible refine And.intro ?hh ?_); (case hh => exact condA); conv => whnf) | fail))
      all_goals first | (exfalso; omega) | exact ⟨(i + 1, k, X, Y), [], by dsimp only; omega, ⟨by dsimp only; omega, j2.trans hy.1.symm, j3.trans hy.2.symm, j4.trans hyb.symm⟩, Back.auto⟩
  · have e : i = n := by omega
    subst e
    rw [← j2, ← j3, ← j4] at kT
    have hk4 : k ≤ 4 := by omega
    (conv => whnf); (repeat' (first | ((with_reducible refine ifb_mk (fun hc => ?_) (fun hc => ?_)) <;> ((try simp only [decide_eq_true_eq, decide_eq_false_iff_not, Bool.not_eq_true', Bool.not_eq_false', Int.not_lt, Int.not_le, ne_eq, Decidable.not_not, beq_iff_eq, List.cons.injEq, and_true] at hc); (first | (exfalso; omega) | exact absurd True.intro hc | conv => whnf))) | ((with_reducible refine And.intro True.intro ?_); conv => whnf) | ((with_reducible refine grd_and ?_); refine And.intro (hi) ?_; conv => whnf) | ((with_reducible refine CallX.all ?_); refine CallW.of_ok (kT _ _ _ hk4 _ rfl) ?_; conv => whnf) | ((with_reducible refine And.intro ?hh ?_); (case hh => exact condA); conv => whnf) | fail))
    all_goals first | (exfalso; omega) | (refine ⟨[], ?_, rfl, rfl, trivial, trivs⟩; simp only [renV, renL]; (first | done | rfl | (simp; done) | (simp; omega) | grind))
end Go.Proofs.K
namespace Go.Proofs.K
open Go.As
set_option maxRecDepth 20000
abbrev C4 := Int × Int × Int × Int
def c4 (p : Nat → Int) : C4 := (p 0, p 1, p 2, p 3)
def l4 (c : C4) : List Int := [c.1, c.2.1, c.2.2.1, c.2.2.2]
def key4 (c : C4) : Value := intsV (l4 c)
theorem l4_inj {a b : C4} : l4 a = l4 b ↔ a = b := by
  obtain ⟨a1, a2, a3, a4⟩ := a
  obtain ⟨b1, b2, b3, b4⟩ := b
  simp [l4]
theorem chk4 : (fun (em : Bool) (a b c d : Int) => pureP Try.prog (Instr.checkKey em 10000 72 (.agg #[.int .i64 a, .int .i64 b, .int .i64 c, .int .i64 d]))) = fun _ _ _ _ _ => some () := by kernel_rfl
theorem eqOk4 : (match flatE Try.prog 6 72 with | some j => Nat.beq j 4 | none => false) = true ∧ isAgg? Try.prog 72 = some true := ⟨by kernel_rfl, by kernel_rfl⟩
theorem intsV_intVs (l : List Int) : intsV l = .agg (intVs l).toArray := by
  unfold intsV intVs
  rfl
theorem keys4 : KeysOk Try.prog 72 key4 where
  chk := fun em k => congrFun (congrFun (congrFun (congrFun (congrFun chk4 em) k.1) k.2.1) k.2.2.1) k.2.2.2
  eq := .inr ⟨_, Try.underlying72, fun a b => rfl, fun a b => by
    have hf : flatE Try.prog 6 72 = some 4 := by
      have h1 := eqOk4.1
      split at h1
      · rename_i j hj; rw [hj, Nat.eq_of_beq_eq_true h1]
      · cases h1
    unfold Op.equal Op.maxDepth key4
    rw [intsV_intVs, intsV_intVs, flat_equal 6 _ 4 hf 10000 (by omega) (l4 a) (l4 b) rfl rfl _ _ (.agg eqOk4.2) (.agg eqOk4.2)]
    congr 1
    rw [Bool.eq_iff_iff, decide_eq_true_eq, decide_eq_true_eq, l4_inj]⟩
end Go.Proofs.K
namespace Go.Proofs.K
open Go.As
set_option maxRecDepth 20000
abbrev E4 := C4 × Nat
def enE (cn : C4 → Nat) (e : E4) : Value × V × Nat := (key4 e.1, .int .i64 ((cn e.1 : Nat) : Int), e.2)
def enL (cn : C4 → Nat) (L : List E4) : List (Value × V × Nat) := L.map (enE cn)
def prQ : List C4 → List E4
  | [] => []
  | c :: q => prQ q ++ [(c, q.length)]
section
variable {cn : C4 → Nat}
theorem prQ_len : ∀ q, (prQ q).length = q.length
  | [] => rfl
  | c :: q => by unfold prQ; rw [List.length_append, prQ_len q]; rfl
theorem prQ_keys : ∀ q, (prQ q).map (·.1) = q.reverse
  | [] => rfl
  | c :: q => by unfold prQ; rw [List.map_append, prQ_keys q, List.reverse_cons]; rfl
theorem prQ_at : ∀ (q : List C4) (j : Nat) (e : E4), (prQ q)[j]? = some e → e.2 = j
  | [], j, e, h => by simp [prQ] at h
  | c :: q, j, e, h => by
    unfold prQ at h
    by_cases hj : j < q.length
    · rw [List.getElem?_append_left (by rw [prQ_len]; exact hj)] at h; exact prQ_at q j e h
    · rw [List.getElem?_append_right (by rw [prQ_len]; omega), prQ_len] at h
      by_cases h2 : j = q.length
      · subst h2; simp at h; rw [← h]
      · rw [List.getElem?_eq_none (by simp; omega)] at h; cases h
theorem enL_keys (L : List E4) : (enL cn L).map (·.1) = (L.map (·.1)).map key4 := by unfold enL; rw [List.map_map, List.map_map]; rfl
theorem enL_find (em : Bool) (c : C4) (L : List E4) : findAt Try.prog em 72 (key4 c) (enL cn L) = some ((L.map (·.1)).findIdx? fun a => decide (c = a)) := findAt_ok keys4 em c _ (enL_keys L)
theorem enL_lt {m : Nat} {L : List E4} {k : Nat} : ltB m (.map (enL cn L) k) := fun e he => by obtain ⟨q, _, rfl⟩ := List.mem_map.1 he; rfl
theorem enL_sub {ρ : Nat → Nat} (L : List E4) (k : Nat) : SubQ ρ (.map (enL cn L) k) (.map (enL cn L) k) := .map (by
  have h : ∀ l : List E4, (enL cn l).map (fun e => (e.1, renV ρ e.2.1, e.2.2)) = enL cn l := fun l => by
    unfold enL; rw [List.map_map]; rfl
  exact (h L).symm)
theorem set_same {α : Type} : ∀ {l : List α} {j : Nat} {x : α}, l[j]? = some x → l.set j x = l
  | a :: l, 0, x, h => by simp at h; rw [List.set_cons_zero, h]
  | a :: l, j + 1, x, h => by rw [List.set_cons_succ, set_same (by simpa using h)]
theorem enL_old {L : List E4} {c : C4} (h : c ∈ L.map (·.1)) : ∃ j e, (∀ em, findAt Try.prog em 72 (key4 c) (enL cn L) = some (some j)) ∧ (enL cn L)[j]? = some e ∧ e.1 = key4 c ∧ (enL cn L).set j (key4 c, .int .i64 ((cn c : Nat) : Int), e.2.2) = enL cn L := by
  have hf := fun em => enL_find (cn := cn) em c L
  cases hc : (L.map (·.1)).findIdx? (fun a => decide (c = a)) with
  | none =>
    have h1 := List.findIdx?_eq_none_iff.1 hc c h
    rw [decide_eq_true rfl] at h1; cases h1
  | some j =>
    obtain ⟨hj, h1, _⟩ := List.findIdx?_eq_some_iff_getElem.1 hc
    have h2 := of_decide_eq_true h1
    rw [List.length_map] at hj
    rw [List.getElem_map] at h2
    have he : (enL cn L)[j]? = some (enE cn L[j]) := by unfold enL; rw [List.getElem?_map, List.getElem?_eq_getElem hj]; rfl
    refine ⟨j, _, fun em => by rw [hf em, hc], he, by show key4 L[j].1 = _; rw [← h2], ?_⟩
    refine set_same ?_
    rw [he]
    unfold enE
    rw [← h2]
theorem enL_new {L : List E4} {c : C4} (h : c ∉ L.map (·.1)) : ∀ em, findAt Try.prog em 72 (key4 c) (enL cn L) = some none := fun em => by
  rw [enL_find em c L]
  congr 1
  rw [List.findIdx?_eq_none_iff]
  intro x hx
  exact decide_eq_false fun e => h (by rw [e]; exact hx)
end
def crG (n : Nat) (a b : Nat → Int) (g : Nat) : Nat → Int := thP (cnF g.testBit n) (slF g.testBit a n) (slF g.testBit b n)
def wkG (n : Nat) (a b : Nat → Int) (g : Nat) : Bool := alW (cnF g.testBit n) (slF g.testBit a n) (slF g.testBit b n)
def mpS (D n : Nat) (a b : Nat → Int) : Nat → List C4
  | 0 => []
  | g + 1 => if cnF g.testBit n = D + 1 ∧ wkG n a b g = true ∧ c4 (crG n a b g) ∉ mpS D n a b g then c4 (crG n a b g) :: mpS D n a b g else mpS D n a b g
theorem cnF_low {g n : Nat} (h : g < 2 ^ n) (hn : n ≤ 16) : pcN g 16 = cnF g.testBit n := by
  have e : 16 = n + (16 - n) := by omega
  have h1 := cnF_add g.testBit n (16 - n)
  rw [← e] at h1
  unfold pcN
  rw [h1]
  have : ∀ m, cnF (fun i => g.testBit (n + i)) m = 0 := fun m => by
    induction m with
    | zero => rfl
    | succ m ih =>
      have e2 : cnF (fun i => g.testBit (n + i)) (m + 1) = cnF (fun i => g.testBit (n + i)) m + (if g.testBit (n + m) = true then 1 else 0) := rfl
      rw [e2, ih, Nat.testBit_lt_two_pow (Nat.lt_of_lt_of_le h (Nat.pow_le_pow_right (n := 2) (by omega) (by omega)))]
      rfl
  rw [this]; rfl
theorem csP_sm {n : Nat} {x y : Nat → Int} (h : Dy n x) (hy : Pl n y) : Sm 1099511627776 4 (thP n x y) := by
  intro k hk
  have b0 := qP_bd h hy (d := 0) (by omega)
  have b1 := qP_bd h hy (d := 1) (by omega)
  have b2 := qP_bd h hy (d := 2) (by omega)
  have b3 := qP_bd h hy (d := 3) (by omega)
  unfold thP
  cases alW n x y with
  | false => show _ ≤ (0 : Int) ∧ (0 : Int) ≤ _; omega
  | true =>
    show _ ≤ csP n (qP n x y) k ∧ csP n (qP n x y) k ≤ _
    unfold csP cut
    generalize qP n x y = q at *
    by_cases e : k < n
    · rw [if_pos e]
      match k, hk with
      | 0, _ => show _ ≤ q 0 ∧ q 0 ≤ _; omega
      | 1, _ => show _ ≤ q 1 - q 0 ∧ q 1 - q 0 ≤ _; omega
      | 2, _ => show _ ≤ q 2 - q 1 - (q 1 - q 0) ∧ q 2 - q 1 - (q 1 - q 0) ≤ _; omega
      | 3, _ => show _ ≤ q 3 - q 2 - (q 2 - q 1) - (q 2 - q 1 - (q 1 - q 0)) ∧ q 3 - q 2 - (q 2 - q 1) - (q 2 - q 1 - (q 1 - q 0)) ≤ _; omega
    · rw [if_neg e]; omega
def f4 (c : C4) : Nat → Int := fun k => match k with
  | 0 => c.1
  | 1 => c.2.1
  | 2 => c.2.2.1
  | 3 => c.2.2.2
  | _ => 0
theorem f4_at {p : Nat → Int} {k : Nat} (h : k < 4) : f4 (c4 p) k = p k := by
  match k, h with
  | 0, _ => rfl
  | 1, _ => rfl
  | 2, _ => rfl
  | 3, _ => rfl
def cnC (n : Nat) (a b : Nat → Int) (c : C4) : Nat := cnF (psF (f4 c) a b) n
theorem cnC_eq {n : Nat} {a b : Nat → Int} {p : Nat → Int} : cnC n a b (c4 p) = cnF (psF p a b) n := by
  unfold cnC
  refine cnF_congr n fun i _ => ?_
  unfold psF
  rw [plc_congr 4 fun k hk => f4_at hk]
end Go.Proofs.K
namespace Go.Proofs.K
open Go.As
set_option maxRecDepth 20000
theorem cell1 {ρ : Nat → Nat} {v : V} {j : Nat} {u : V} (hu : (ofL [v] 0).get j = some u) : j = 0 ∧ u = v := by
  rw [get_ofL, if_pos (Nat.zero_le _), Nat.sub_zero] at hu
  match j with
  | 0 => simp at hu; exact ⟨rfl, hu.symm⟩
  | j + 1 => simp at hu
theorem sets_new (h : As.H) (s : Nat) (k : Int) {L : List V} (hL : ∀ v ∈ L, bare0 v = true) {w : Bool} {g : Option (Nat × Nat)} (hs : h.get s = some (.cells (ofL L 0) w g)) :
    CallOk Try.prog 91 [.ptr s 0, .int .i64 k] h (.fn 95 [] [.ptr (h.n + 0) 0, .ptr (h.n + 1) 0]) (addBs h [.cells (ofL [.ptr s 0] 0) true none, .cells (ofL [.int .i64 k] 0) true none]) := by
  refine CallOk.runN Try.func91 rfl rfl (argsC := [.ptr 0 0, .int .i64 k]) (fun N => .fn 95 [] [.ptr (N + 0) 0, .ptr (N + 1) 0]) (fun _ => [.cells (ofL [.ptr 0 0] 0) true none, .cells (ofL [.int .i64 k] 0) true none]) (Nat.le_of_ble_eq_true rfl) [some (s, 0)] (.cons (.ptr (i := 0) rfl) (.cons (.bare rfl) .nil)) (one_view hs hL)
    (ShV.fn .nil (.cons (.ptr (i := 0) (Nat.le_of_ble_eq_true rfl) rfl rfl) (.cons (.ptr (i := 1) (Nat.le_of_ble_eq_true rfl) rfl rfl) .nil))) rfl (fun i b hi => ?_) (WpR.of_vc ?_)
  · match i, hi with
    | 0, hi =>
      cases hi
      refine ⟨_, rfl, rfl, .cells fun j v' hv => ?_⟩
      obtain ⟨rfl, rfl⟩ := cell1 (ρ := id) hv
      exact ⟨rfl, .ptr 0 0, rfl, .old (.ptr (i := 0) rfl) rfl⟩
    | 1, hi => cases hi; exact ⟨_, rfl, rfl, .bare (ofL_bare (by intro v hv; rw [List.mem_singleton.1 hv]; rfl))⟩
    | i + 2, hi => simp at hi
  · (conv => whnf); (repeat' (first | ((with_reducible refine ifb_mk (fun hc => ?_) (fun hc => ?_)) <;> ((try simp only [decide_eq_true_eq, decide_eq_false_iff_not, Bool.not_eq_true', Bool.not_eq_false', Int.not_lt, Int.not_le, ne_eq, Decidable.not_not, beq_iff_eq, List.cons.injEq, and_true] at hc); (first | (exfalso; omega) | exact absurd True.intro hc | conv => whnf))) | ((with_reducible refine And.intro True.intro ?_); conv => whnf) | ((with_reducible refine And.intro ?hh ?_); (case hh => exact condA); conv => whnf) | fail))
    have hq : ∀ (ρ : Nat → Nat), ρ 0 = 0 → SubQ ρ (Blk.cells (ofL [V.ptr 0 0] 0) true none) (Blk.cells (ofL [V.ptr 0 0] 0) true none) := fun ρ h0 => .cells (fun j v hv => by
      have hv2 := hv
      obtain ⟨rfl, rfl⟩ := cell1 (ρ := id) hv
      rw [hv2]; show _ = some (V.ptr (ρ 0) 0); rw [h0]) (fun h => h) (.inl rfl)
    have hq2 : ∀ (ρ : Nat → Nat), SubQ ρ (Blk.cells (ofL [V.int .i64 k] 0) true none) (Blk.cells (ofL [V.int .i64 k] 0) true none) := fun ρ => SubQ.ofL rfl (by intro v hv; rw [List.mem_singleton.1 hv]; rfl) (.inl rfl)
    refine ⟨[1, 2], rfl, rfl, rfl, ⟨⟨_, rfl, rfl, hq _ rfl⟩, fun j v hv => ?_, rfl, ⟨_, rfl, rfl, hq2 _⟩, fun j v hv => ?_, rfl, trivial⟩, trivs⟩
    · obtain ⟨rfl, rfl⟩ := cell1 (ρ := id) hv; rfl
    · obtain ⟨rfl, rfl⟩ := cell1 (ρ := id) hv; rfl
end Go.Proofs.K
namespace Go.Proofs.K
open Go.As
set_option maxRecDepth 20000
section
variable {cn : C4 → Nat}
theorem left_mem {L : List E4} {seen : List Nat} {e : Value × V × Nat} (h : e ∈ leftL (enL cn L) seen) : ∃ q ∈ L, e = enE cn q ∧ q.2 ∉ seen := by
  unfold leftL enL at h
  obtain ⟨h1, h2⟩ := List.mem_filter.1 h
  obtain ⟨q, hq, rfl⟩ := List.mem_map.1 h1
  exact ⟨q, hq, rfl, by simpa [enE] using h2⟩
theorem left_some {L : List E4} {seen : List Nat} {q : E4} (hq : q ∈ L) (hs : q.2 ∉ seen) : leftL (enL cn L) seen ≠ [] := by
  intro h
  have h2 : enE cn q ∈ leftL (enL cn L) seen := List.mem_filter.2 ⟨List.mem_map.2 ⟨q, hq, rfl⟩, by simpa [enE] using hs⟩
  rw [h] at h2
  cases h2
theorem left_nil {L : List E4} {seen : List Nat} (h : leftL (enL cn L) seen = []) : ∀ q ∈ L, q.2 ∈ seen := by
  intro q hq
  by_cases hs : q.2 ∈ seen
  · exact hs
  · exact absurd h (left_some hq hs)
theorem find_stamp : ∀ {L : List E4} {q : E4}, q ∈ L → (∀ a ∈ L, a.2 = q.2 → a = q) → (enL cn L).find? (fun e => Nat.beq e.2.2 q.2) = some (enE cn q)
  | a :: L, q, hq, hu => by
    show List.find? _ (enE cn a :: enL cn L) = _
    rw [List.find?_cons]
    by_cases h : a.2 = q.2
    · have := hu a (List.mem_cons_self ..) h
      subst this
      have : Nat.beq (enE cn a).2.2 a.2 = true := Nat.beq_refl _
      rw [this]
    · have hb : Nat.beq (enE cn a).2.2 q.2 = false := by rw [Bool.eq_false_iff]; intro hc; exact h (Nat.eq_of_beq_eq_true hc)
      rw [hb]
      rcases List.mem_cons.1 hq with rfl | hq
      · exact absurd rfl h
      · exact find_stamp hq fun b hb => hu b (List.mem_cons_of_mem _ hb)
def msr (L : List E4) (seen : List Nat) : Nat := (L.filter fun q => !seen.contains q.2).length
theorem filter_lt {α : Type} {p p' : α → Bool} (hpp : ∀ a, p' a = true → p a = true) : ∀ {l : List α} {x : α}, x ∈ l → p x = true → p' x = false → (l.filter p').length < (l.filter p).length
  | a :: l, x, hx, h1, h2 => by
    have hle : ∀ l : List α, (l.filter p').length ≤ (l.filter p).length := fun l => by
      induction l with
      | nil => exact Nat.le_refl _
      | cons b l ih =>
        by_cases hb : p' b = true
        · rw [List.filter_cons_of_pos hb, List.filter_cons_of_pos (hpp b hb)]; simp; exact ih
        · rw [List.filter_cons_of_neg hb]
          by_cases hc : p b = true
          · rw [List.filter_cons_of_pos hc]; simp; omega
          · rw [List.filter_cons_of_neg hc]; exact ih
    rcases List.mem_cons.1 hx with rfl | hx
    · rw [List.filter_cons_of_pos h1, List.filter_cons_of_neg (by rw [h2]; decide)]
      have := hle l
      simp; omega
    · have ih := filter_lt hpp hx h1 h2
      by_cases hb : p' a = true
      · rw [List.filter_cons_of_pos hb, List.filter_cons_of_pos (hpp a hb)]; simp; exact ih
      · rw [List.filter_cons_of_neg hb]
        by_cases hc : p a = true
        · rw [List.filter_cons_of_pos hc]; simp; omega
        · rw [List.filter_cons_of_neg hc]; exact ih
theorem msr_lt {L : List E4} {seen : List Nat} {q : E4} (hq : q ∈ L) (hs : q.2 ∉ seen) : msr L (seen ++ [q.2]) < msr L seen :=
  filter_lt (fun a ha => by
    simp only [Bool.not_eq_true', List.contains_eq_mem, List.mem_append, decide_eq_false_iff_not, not_or] at ha ⊢
    exact ha.1) hq (by simpa using hs) (by simp)
theorem msr_nil (L : List E4) : msr L [] = L.length := by
  unfold msr
  rw [List.filter_eq_self.2 (by simp)]
theorem last_snoc {α : Type} (l : List α) (x : α) : (l ++ [x]).getLast? = some x := by simp
theorem prQ_lt {q : List C4} : ∀ e ∈ prQ q, e.2 < q.length := fun e he => by
  obtain ⟨j, hj, rfl⟩ := List.getElem_of_mem he
  have := prQ_at q j _ (List.getElem?_eq_getElem hj)
  rw [prQ_len] at hj
  omega
theorem prQ_inj {q : List C4} : ∀ e ∈ prQ q, ∀ a ∈ prQ q, a.2 = e.2 → a = e := fun e he a ha h => by
  obtain ⟨j, hj, rfl⟩ := List.getElem_of_mem he
  obtain ⟨i, hi, rfl⟩ := List.getElem_of_mem ha
  have h1 := prQ_at q j _ (List.getElem?_eq_getElem hj)
  have h2 := prQ_at q i _ (List.getElem?_eq_getElem hi)
  have e : i = j := by omega
  subst e; rfl
end
def mxC (cn : C4 → Nat) (L : List E4) : Nat := L.foldr (fun e m => max (cn e.1) m) 0
theorem mxC_ge {cn : C4 → Nat} : ∀ {L : List E4} {e : E4}, e ∈ L → cn e.1 ≤ mxC cn L
  | a :: L, e, h => by
    show cn e.1 ≤ max (cn a.1) (mxC cn L)
    rcases List.mem_cons.1 h with rfl | h
    · omega
    · have := mxC_ge (cn := cn) h; omega
theorem mxC_at {cn : C4 → Nat} : ∀ {L : List E4}, L ≠ [] → ∃ e ∈ L, cn e.1 = mxC cn L
  | [], h => absurd rfl h
  | [a], _ => ⟨a, List.mem_singleton.2 rfl, by show _ = max (cn a.1) 0; omega⟩
  | a :: b :: L, _ => by
    have e : mxC cn (a :: b :: L) = max (cn a.1) (mxC cn (b :: L)) := rfl
    by_cases h : mxC cn (b :: L) ≤ cn a.1
    · exact ⟨a, List.mem_cons_self .., by rw [e]; omega⟩
    · obtain ⟨x, hx, h1⟩ := mxC_at (cn := cn) (L := b :: L) (by simp)
      exact ⟨x, List.mem_cons_of_mem _ hx, by rw [e]; omega⟩
def eI (x : Int) : List V := [.int .i64 x]
theorem eI_len (x : Int) : (eI x).length = 1 := rfl
theorem eI_bare (x : Int) : ∀ v ∈ eI x, bare0 v = true := by
  intro v hv
  rw [List.mem_singleton.1 hv]; rfl
theorem gI_bare (l : List Int) : ∀ v ∈ gR eI l, bare0 v = true := gR_bare eI_bare
theorem gI_len (l : List Int) : (gR eI l).length = l.length * 1 := gR_len eI_len l
theorem gI_one (l : List Int) : (gR eI l).all one = true := gR_one eI_bare l
theorem gI_vs : ∀ l : List Int, gR eI l = iVs l.reverse
  | [] => rfl
  | x :: l => by
    show gR eI l ++ eI x = _
    rw [gI_vs l, List.reverse_cons]
    unfold iVs
    rw [List.map_append]; rfl
def mxI (l : List Int) (m : Int) : Int := l.foldl (fun m x => max m x) m
theorem mxI_ge : ∀ (l : List Int) (m : Int), m ≤ mxI l m ∧ ∀ x ∈ l, x ≤ mxI l m
  | [], m => ⟨Int.le_refl _, fun x h => by cases h⟩
  | a :: l, m => by
    obtain ⟨h1, h2⟩ := mxI_ge l (max m a)
    refine ⟨by show m ≤ mxI l (max m a); omega, fun x hx => ?_⟩
    show x ≤ mxI l (max m a)
    rcases List.mem_cons.1 hx with rfl | hx
    · omega
    · exact h2 x hx
theorem mxI_at : ∀ (l : List Int) (m : Int), mxI l m = m ∨ mxI l m ∈ l
  | [], m => .inl rfl
  | a :: l, m => by
    show mxI l (max m a) = m ∨ mxI l (max m a) ∈ a :: l
    rcases mxI_at l (max m a) with h | h
    · by_cases e : a ≤ m
      · exact .inl (by omega)
      · exact .inr (by rw [h, show max m a = a by omega]; exact List.mem_cons_self)
    · exact .inr (List.mem_cons_of_mem _ h)
theorem max_ilt (a b : Int) : (match ilt a b with | true => b | false => a) = max a b := by
  rw [ilt_eq]
  by_cases h : a < b
  · rw [decide_eq_true h]; show b = _; omega
  · rw [decide_eq_false h]; show a = _; omega
set_option maxHeartbeats 4000000 in
theorem greatest_ok (h : As.H) (x : Int) (L : List Int) (sv : V) (hl : L.length < 1000000) (hs : SlC h (iVs (x :: L)) (L.length + 1) sv) : CallOk Try.prog 85 [sv] h (.int .i64 (mxI (x :: L) x)) h := by
  obtain ⟨vo, svC, hsv, hca, hvw⟩ := hs.view 0
  refine CallOk.run Try.func85 rfl rfl (argsC := [svC]) (Nat.le_of_ble_eq_true rfl) [vo] (.cons (hca _ rfl) .nil) (viewMc1 iVs_bare hvw) rfl (WpR.of_vc ?_)
  have hBare := @iVs_bare (x :: L)
  have hg := fun i z (hz : (x :: L)[i]? = some z) => iGet (l := x :: L) hz
  have hz0 : (ofL (iVs (x :: L)) 0).get 0 = some (.int .i64 x) := get_ofL0 rfl
  have hlen : (x :: L).length = L.length + 1 := rfl
  have hL0 : (x :: L).drop 0 = x :: L := rfl
  have hdr := fun i z (h : (x :: L)[i]? = some z) => drop_at h
  have hnil : (x :: L).drop (L.length + 1) = [] := List.drop_eq_nil_of_le (by rw [hlen]; exact Nat.le_refl _)
  cases hsv with
  | nil h0 => omega
  | @sl cap ex =>
  generalize x :: L = l at *
  generalize hM : mxI l x = M at *
  (conv => whnf); (repeat' (first | ((with_reducible refine ifb_mk (fun hc => ?_) (fun hc => ?_)) <;> ((try simp only [decide_eq_true_eq, decide_eq_false_iff_not, Bool.not_eq_true', Bool.not_eq_false', Int.not_lt, Int.not_le, ne_eq, Decidable.not_not, beq_iff_eq, List.cons.injEq, and_true] at hc); (first | (exfalso; omega) | exact absurd True.intro hc | conv => whnf))) | ((with_reducible refine And.intro True.intro ?_); conv => whnf) | ((with_reducible refine grd_get ?_); refine som_mk (a := ?_) ?hh ?_; (case hh => exact hz0); conv => whnf) | ((with_reducible refine And.intro ?hh ?_); (case hh => exact condA); conv => whnf) | fail))
  refine WpR.loopA (ι := Nat × Int) [] [9, 10] [] [] 1 (fun p => [(11, .int .i64 p.1), (3, .int .i64 p.2)]) (fun _ => []) (fun p => (L.length + 1) - p.1) (fun p => p.1 ≤ L.length + 1 ∧ mxI (l.drop p.1) p.2 = M) ?_ ((0, x)) (⟨Nat.zero_le _, hM⟩) [] Back.auto
  rintro ⟨i, m⟩ ⟨j1, j2⟩
  dsimp only at j1 j2
  refine WpR.of_vc ?_
  by_cases hi : i < L.length + 1
  · obtain ⟨z, hz⟩ : ∃ z, l[i]? = some z := ⟨_, List.getElem?_eq_getElem (by omega)⟩
    have hgi := hg i z hz
    rw [hdr i z hz] at j2
    have e : (match ilt m z with | true => z | false => m) = max m z := max_ilt _ _
    have j3 : mxI (l.drop (i + 1)) (match ilt m z with | true => z | false => m) = M := by rw [e]; exact j2
    (conv => whnf); (repeat' (first | ((with_reducible refine ifb_mk (fun hc => ?_) (fun hc => ?_)) <;> ((try simp only [decide_eq_true_eq, decide_eq_false_iff_not, Bool.not_eq_true', Bool.not_eq_false', Int.not_lt, Int.not_le, ne_eq, Decidable.not_not, beq_iff_eq, List.cons.injEq, and_true] at hc); (first | (exfalso; omega) | exact absurd True.intro hc | conv => whnf))) | ((with_reducible refine And.intro True.intro ?_); conv => whnf) | ((with_reducible refine grd_and ?_); refine And.intro (hi) ?_; conv => whnf) | ((with_reducible refine grd_get ?_); refine som_mk (a := ?_) ?hh ?_; (case hh => exact hgi); conv => whnf) | ((with_reducible refine And.intro ?hh ?_); (case hh => exact condA); conv => whnf) | fail))
    all_goals first | (exfalso; omega) | exact ⟨(i + 1, (match ilt m z with | true => z | false => m)), [], by dsimp only; omega, ⟨by dsimp only; omega, j3⟩, Back.auto⟩
  · have e : i = L.length + 1 := by omega
    subst e
    rw [hnil] at j2
    have j3 : m = M := j2
    subst j3
    (conv => whnf); (repeat' (first | ((with_reducible refine ifb_mk (fun hc => ?_) (fun hc => ?_)) <;> ((try simp only [decide_eq_true_eq, decide_eq_false_iff_not, Bool.not_eq_true', Bool.not_eq_false', Int.not_lt, Int.not_le, ne_eq, Decidable.not_not, beq_iff_eq, List.cons.injEq, and_true] at hc); (first | (exfalso; omega) | exact absurd True.intro hc | conv => whnf))) | ((with_reducible refine And.intro True.intro ?_); conv => whnf) | ((with_reducible refine grd_and ?_); refine And.intro (hi) ?_; conv => whnf) | ((with_reducible refine And.intro ?hh ?_); (case hh => exact condA); conv => whnf) | fail))
    all_goals first | (exfalso; omega) | (refine ⟨[], ?_, rfl, rfl, trivial, trivs⟩; simp only [renV, renL]; (first | done | rfl | (simp; done) | (simp; omega) | grind))
end Go.Proofs.K
namespace Go.Proofs.K
open Go.As
set_option maxRecDepth 20000
def mkG (D n : Nat) (a b : Nat → Int) : Nat → Nat → Bool
  | 0 => fun _ => false
  | g + 1 => if cnF g.testBit n = D + 1 ∧ wkG n a b g = true then mkP (psF (crG n a b g) a b) n else mkG D n a b g
def lfL (cn : C4 → Nat) (m : Nat) (L : List E4) (seen : List Nat) : List E4 := L.filter fun e => !(seen.contains e.2 && decide (cn e.1 < m))
def bstL (cn : C4 → Nat) (L : List E4) : List E4 := L.filter fun e => decide (cn e.1 = mxC cn L)
noncomputable def bsB (s m : Nat) (most : Nat) : Blk := .cells (ofL [.ptr s 0, .map m, .int .i64 most] 0) true none
def bvV (N : Nat) : List C4 → V
  | [] => .tup [.nilp, .int .i64 23]
  | _ :: _ => .tup [.ptr (N + 0) 0, .int .i64 0]
noncomputable def bvN (D : Int) (lv : V) (mk : Nat → Bool) (cn : C4 → Nat) (N : Nat) (q : List C4) : List Blk := match q with
  | [] => []
  | _ :: _ => [bsB (N + 1) (N + 2) (mxC cn (prQ q)), shB D lv mk, .map (enL cn (bstL cn (prQ q))) q.length]
section
variable {cn : C4 → Nat} {m : Nat}
theorem lfL_nil (L : List E4) : lfL cn m L [] = L := by
  unfold lfL
  rw [List.filter_eq_self.2 (by simp)]
theorem lfL_mem {L : List E4} {seen : List Nat} {e : E4} : e ∈ lfL cn m L seen ↔ e ∈ L ∧ ¬ (e.2 ∈ seen ∧ cn e.1 < m) := by
  unfold lfL
  rw [List.mem_filter]
  constructor
  · rintro ⟨h1, h2⟩
    refine ⟨h1, fun hc => ?_⟩
    rw [decide_eq_true hc.2, show seen.contains e.2 = true from by simpa using hc.1] at h2
    exact absurd h2 (by decide)
  · rintro ⟨h1, h2⟩
    refine ⟨h1, ?_⟩
    cases hs : seen.contains e.2 with
    | false => rfl
    | true =>
      have : ¬ cn e.1 < m := fun hc => h2 ⟨by simpa using hs, hc⟩
      rw [decide_eq_false this]; rfl
theorem lfL_keep {L : List E4} {seen : List Nat} {e : E4} (hin : ∀ x ∈ L, ∀ a ∈ L, a.2 = x.2 → a = x) (he : e ∈ L) (h : ¬ cn e.1 < m) : lfL cn m L (seen ++ [e.2]) = lfL cn m L seen := by
  unfold lfL
  refine List.filter_congr fun x hx => ?_
  congr 1
  rw [Bool.eq_iff_iff]
  simp
  intro hlt h1
  have := hin e he x hx h1
  subst this; exact absurd hlt h
theorem erase_key : ∀ {L : List E4} {e : E4} {j : Nat}, e ∈ L → (∀ a ∈ L, a.1 = e.1 → a = e) → (L.map (·.1)).findIdx? (fun a => decide (e.1 = a)) = some j → L.Nodup → L.eraseIdx j = L.filter fun x => decide (x ≠ e)
  | a :: L, e, j, he, hu, hf, hn => by
    rw [List.map_cons, List.findIdx?_cons] at hf
    have hnd := List.nodup_cons.1 hn
    by_cases h : e.1 = a.1
    · rw [decide_eq_true h] at hf
      have e1 := hu a List.mem_cons_self h.symm
      subst e1
      have : j = 0 := by simpa using hf.symm
      subst this
      rw [List.eraseIdx_cons_zero, List.filter_cons_of_neg (by simp)]
      refine (List.filter_eq_self.2 fun x hx => ?_).symm
      have hxa : x ≠ a := fun hc => hnd.1 (by rw [← hc]; exact hx)
      simpa using hxa
    · rw [decide_eq_false h] at hf
      have hae : a ≠ e := fun hc => h (by rw [hc])
      have heL : e ∈ L := by
        rcases List.mem_cons.1 he with h1 | h1
        · exact absurd h1.symm hae
        · exact h1
      cases hj : (L.map (·.1)).findIdx? (fun a => decide (e.1 = a)) with
      | none => rw [hj] at hf; simp at hf
      | some i =>
        rw [hj] at hf
        have : j = i + 1 := by simpa using hf.symm
        subst this
        rw [List.eraseIdx_cons_succ, List.filter_cons_of_pos (by simpa using hae), erase_key heL (fun x hx => hu x (List.mem_cons_of_mem _ hx)) hj hnd.2]
theorem lfL_drop {L : List E4} {seen : List Nat} {e : E4} (hin : ∀ x ∈ L, ∀ a ∈ L, a.2 = x.2 → a = x) (he : e ∈ L) (h : cn e.1 < m) : (lfL cn m L seen).filter (fun x => decide (x ≠ e)) = lfL cn m L (seen ++ [e.2]) := by
  unfold lfL
  rw [List.filter_filter]
  refine List.filter_congr fun x hx => ?_
  by_cases hxe : x = e
  · subst hxe; simp [h]
  · have : x.2 ≠ e.2 := fun hc => hxe (hin e he x hx hc)
    simp [hxe, this]
theorem lfL_end {L : List E4} {seen : List Nat} (hge : ∀ e ∈ L, cn e.1 ≤ m) (h : ∀ e ∈ lfL cn m L seen, e.2 ∈ seen) : lfL cn m L seen = L.filter fun e => decide (cn e.1 = m) := by
  unfold lfL
  refine List.filter_congr fun x hx => ?_
  have h1 := hge x hx
  by_cases hm : cn x.1 = m
  · rw [decide_eq_true hm, decide_eq_false (by omega), Bool.and_false]; rfl
  · rw [decide_eq_false hm]
    by_cases hs : x.2 ∈ seen
    · simp [hs]; omega
    · exfalso
      have : x ∈ lfL cn m L seen := lfL_mem.2 ⟨hx, fun hc => hs hc.1⟩
      exact hs (h x this)
theorem enL_erase : ∀ (L : List E4) (j : Nat), (enL cn L).eraseIdx j = enL cn (L.eraseIdx j)
  | [], _ => rfl
  | e :: L, 0 => rfl
  | e :: L, j + 1 => by
    show enE cn e :: (enL cn L).eraseIdx j = enE cn e :: enL cn (L.eraseIdx j)
    rw [enL_erase L j]
theorem prQ_nodup : ∀ q : List C4, q.Nodup → (prQ q).Nodup
  | [], _ => List.nodup_nil
  | c :: q, h => by
    unfold prQ
    have h2 := List.nodup_cons.1 h
    rw [List.nodup_append]
    refine ⟨prQ_nodup q h2.2, by simp, fun x hx y hy => ?_⟩
    rw [List.mem_singleton.1 hy]
    intro hc
    subst hc
    have := prQ_lt _ hx
    exact absurd this (Nat.lt_irrefl _)
theorem prQ_sub {q : List C4} {e : E4} (h : e ∈ prQ q) : e.1 ∈ q := by
  have h1 : e.1 ∈ (prQ q).map (·.1) := List.mem_map_of_mem h
  rw [prQ_keys] at h1
  exact List.mem_reverse.1 h1
theorem prQ_key : ∀ {q : List C4}, q.Nodup → ∀ e ∈ prQ q, ∀ a ∈ prQ q, a.1 = e.1 → a = e
  | [], _, e, he, _, _, _ => by cases he
  | c :: q, h, e, he, a, ha, hk => by
    have h2 := List.nodup_cons.1 h
    unfold prQ at he ha
    rcases List.mem_append.1 he with h3 | h3
    · rcases List.mem_append.1 ha with h4 | h4
      · exact prQ_key h2.2 e h3 a h4 hk
      · rw [List.mem_singleton.1 h4] at hk
        have h5 : c = e.1 := hk
        exact absurd (prQ_sub h3) (by rw [← h5]; exact h2.1)
    · rcases List.mem_append.1 ha with h4 | h4
      · rw [List.mem_singleton.1 h3] at hk
        have h5 : a.1 = c := hk
        exact absurd (prQ_sub h4) (by rw [h5]; exact h2.1)
      · rw [List.mem_singleton.1 h3, List.mem_singleton.1 h4]
theorem mpS_nodup (D n : Nat) (a b : Nat → Int) : ∀ g, (mpS D n a b g).Nodup
  | 0 => List.nodup_nil
  | g + 1 => by
    unfold mpS
    split
    · rename_i h; exact List.nodup_cons.2 ⟨h.2.2, mpS_nodup D n a b g⟩
    · exact mpS_nodup D n a b g
theorem mpS_len (D n : Nat) (a b : Nat → Int) : ∀ g, (mpS D n a b g).length ≤ g
  | 0 => Nat.le_refl _
  | g + 1 => by
    have := mpS_len D n a b g
    unfold mpS
    split
    · simp; omega
    · omega
end
end Go.Proofs.K
