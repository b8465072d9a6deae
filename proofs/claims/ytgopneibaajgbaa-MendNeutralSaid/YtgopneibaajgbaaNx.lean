/- What the functions answer that the laws call, one after another (Nx). -/
import Derived.Test.YtgopneibaajgbaaAs6
import Derived.Test.YtgopneibaajgbaaBu
import Derived.Test.YtgopneibaajgbaaB4

set_option linter.unusedVariables false
namespace Go.Proofs.H
open Go.As
set_option maxRecDepth 20000
set_option linter.unusedVariables false
set_option linter.unusedSimpArgs false

/-! ### How many neighbours have not burnt -/

def cP (W H : Nat) (L : List Nat) (i : Nat) : Nat → Int
  | 0 => 0
  | j + 1 => cP W H L i j + (if nbP W H i j = true then 1 - gn L (nbI W i j) else 0)
theorem lf_cP (W H : Nat) (L : List Nat) (i : Nat) : lf W H L i = cP W H L i 4 := by
  unfold lf bsL
  simp only [cP]
  cases nbP W H i 0 <;> cases nbP W H i 1 <;> cases nbP W H i 2 <;> cases nbP W H i 3 <;> simp [lp]
theorem cP_le (W H : Nat) (L : List Nat) (i : Nat) {j k : Nat} (h : j ≤ k) : cP W H L i j ≤ cP W H L i k := by
  induction k with
  | zero => rw [Nat.le_zero.1 h]; exact Int.le_refl _
  | succ k ih =>
    by_cases e : j = k + 1
    · rw [e]; exact Int.le_refl _
    · have h1 := ih (by omega)
      have h2 := gn_01 L (nbI W i k)
      show _ ≤ cP W H L i k + _
      split <;> omega
theorem cP_rng (W H : Nat) (L : List Nat) (i j : Nat) : 0 ≤ cP W H L i j ∧ cP W H L i j ≤ j := by
  induction j with
  | zero => exact ⟨Int.le_refl _, Int.le_refl _⟩
  | succ j ih =>
    have h2 := gn_01 L (nbI W i j)
    show 0 ≤ cP W H L i j + _ ∧ cP W H L i j + _ ≤ _
    split <;> omega
theorem WpR.gen {P : Program} {n0 : Nat} {X : List Nat} {ro : Option Nat} {c : Code} {s : St} {Q : Ex → St → Prop} (h : ∀ Q', (∀ ex s, Q ex s → Q' ex s) → WpR P n0 X ro c s Q') : WpR P n0 X ro c s Q := h Q fun _ _ h => h
/-- The marks of what has burnt. -/
def ashV (L : List Nat) (k : Nat) : V := .bool (decide (k ∈ L))
noncomputable def ashC (L : List Nat) : Tr V := ofL (arrV 36 (ashV L)) 0
noncomputable def ashB (L : List Nat) : Blk := .cells (ashC L) false none
theorem ash_get {L : List Nat} {o i : Nat} (ho : o = i) (hi : i < 36) : (ashC L).get o = some (.bool (decide (i ∈ L))) := arrV_get ho hi
theorem ash_lt {n : Nat} {L : List Nat} : ltB n (ashB L) := ltB_ofLb (arrV_bare fun _ => rfl)
theorem ash_bare {L : List Nat} {k : Nat} {v : V} (h : (ashC L).get k = some v) : bare0 v = true := by
  unfold ashC at h
  rw [get_ofL, if_pos (Nat.zero_le _), Nat.sub_zero] at h
  exact arrV_bare (fun _ => rfl) v (List.mem_of_getElem? h)
theorem ash_sub {ρ : Nat → Nat} {L : List Nat} : SubQ ρ (ashB L) (ashB L) := .cells (fun k v hv => by rw [renV_bare0 (ash_bare hv)]; exact hv) id (.inr rfl)
def burntF (s bx : Nat) : V := .fn 81 [] [.ptr s 0, .ptr bx 0]
theorem okI_in {W H : Nat} {x : Nat → Int} {L : List Nat} {i : Nat} (h : i ∈ L) : okI W H x L i ≤ 3 := by
  unfold okI gn
  rw [if_neg (fun hc => by rw [if_pos h] at hc; exact absurd hc.1 (by decide))]; decide
theorem okI_few {W H : Nat} {x : Nat → Int} {L : List Nat} {i : Nat} (h : x i < cP W H L i 4) : okI W H x L i ≤ 3 := by
  unfold okI
  rw [if_neg (fun hc => by rw [lf_cP] at hc; omega)]; decide
theorem okI_yes {W H : Nat} {x : Nat → Int} {L : List Nat} {i : Nat} (h0 : ¬ i ∈ L) (h : cP W H L i 4 ≤ x i) : 3 < okI W H x L i := by
  unfold okI
  rw [if_pos ⟨by unfold gn; rw [if_neg h0], by rw [lf_cP]; exact h⟩]; decide
end Go.Proofs.H

namespace Go.Proofs.H
open Go.As
set_option maxRecDepth 20000
set_option linter.unusedVariables false
set_option linter.unusedSimpArgs false

/-! ### The neighbours of a place, one after another -/

/-- The innermost loop over a function. -/
def rfIn : Code → Option (Code × Code)
  | .seq a b => match rfIn a with
    | some c => some c
    | none => rfIn b
  | .cond _ a b => match rfIn a with
    | some c => some c
    | none => rfIn b
  | .block _ c => rfIn c
  | .loop c => rfIn c
  | .scope c => rfIn c
  | .rangeFunc _ _ a b => match rfIn b with
    | some c => some c
    | none => some (a, b)
  | _ => none
noncomputable def nbC : Code × Code := match Try.f80.body with
  | some c => (match rfIn c with | some p => p | none => (.skip, .skip))
  | none => (.skip, .skip)
noncomputable def bsC : Code := match Try.f84.body with
  | some (.seq _ (.block _ (.loop c))) => c
  | _ => .skip
noncomputable def nbT1 (x y : Nat) (v18 v20 v21 v22 : V) : Tr V := setTs .leaf [(0, .ptr 0 0), (1, .fn 81 [] [.ptr 1 0, .ptr 2 0]), (2, .ptr 3 0), (3, .ptr 4 0), (4, .ptr 5 0), (5, .ptr 6 0), (6, .ptr 10 0), (7, .ptr 12 0), (9, .ptr 0 0), (10, .fn 78 [] [.ptr 7 0]), (11, .agg [.int .i64 x, .int .i64 y]), (12, .fn 81 [] [.ptr 1 0, .ptr 2 0]), (13, .agg [.int .i64 x, .int .i64 y]), (14, .bool false), (15, .ptr 0 0), (16, .ptr 0 0), (17, .agg [.int .i64 x, .int .i64 y]), (18, v18), (19, .ptr 0 0), (20, v20), (21, v21), (22, v22), (23, .ptr 0 0), (24, .agg [.int .i64 x, .int .i64 y]), (25, .fn 84 [] [.ptr 14 0, .ptr 13 0])]
noncomputable def nbL (T1 : Tr V) : Lp := ⟨.ready, none, T1, Try.f80.ntmps, [26], nbC.1, nbC.2, 8⟩
def nbT (x y : Nat) (j : Int) : List (Nat × V) := [(0, .yld 15), (1, .ptr 14 0), (2, .ptr 13 0), (30, .agg [.int .i64 x, .int .i64 ((y : Int) - 1), .int .i64 ((x : Int) - 1), .int .i64 y, .int .i64 ((x : Int) + 1), .int .i64 y, .int .i64 x, .int .i64 ((y : Int) + 1)]), (31, .int .i64 j)]
noncomputable def nbM (B Z : Tr V) (R2 R1 : Blk) (x y : Nat) (l : Int) : List Blk := [.cells B false none, .cells Z false none, .cells (ofL [.ptr 0 0] 0) false none, .cells (ofL [.ptr 0 0] 0) true none, .cells (ofL [.fn 81 [] [.ptr 1 0, .ptr 2 0]] 0) true none, .cells (ofL [.int .i64 0, .int .i64 0] 0) true none, .cells (ofL [.bool false] 0) true none, .cells (ofL [.ptr 0 0] 0) true none, .defd false, R2, .cells (ofL [.int .i64 x, .int .i64 y] 0) true none, .cells (ofL [.int .i64 x, .int .i64 y] 0) true none, .cells (ofL [.int .i64 l] 0) true none, .cells (ofL [.ptr 0 0] 0) true none, .cells (ofL [.int .i64 x, .int .i64 y] 0) true none, R1]
set_option maxHeartbeats 8000000 in
theorem inner_w (W H x y : Nat) (hW : 1 ≤ W ∧ W ≤ 6) (hH : 1 ≤ H ∧ H ≤ 6) (B Z : Tr V) (R2 : Blk) (v18 v20 v21 v22 : V) (t0 : Tr V) (L : List Nat) (NP : Nat → Bool) (NI : Nat → Nat) (X Y : Nat → Int) (lv : Nat → Int) (Q : Ex → St → Prop)
    (hg0 : B.get 0 = some (.int .i64 W)) (hg1 : B.get 1 = some (.int .i64 H)) (hash : ∀ i o, o = i → i < 36 → Z.get o = some (.bool (decide (i ∈ L))))
    (hpart : ∀ j : Nat, j < 4 → part? Try.prog 75 [.int .i64 x, .int .i64 ((y : Int) - 1), .int .i64 ((x : Int) - 1), .int .i64 y, .int .i64 ((x : Int) + 1), .int .i64 y, .int .i64 x, .int .i64 ((y : Int) + 1)] ((j : Int).toNat * 2) = some (spV (X j) (Y j)))
    (hwk : ∀ j, j < 4 → NP j = decide ((0 ≤ X j ∧ X j ≤ (W : Int) - 1) ∧ 0 ≤ Y j ∧ Y j ≤ (H : Int) - 1))
    (hNb : ∀ j, j < 4 → NP j = true → NI j < 36 ∧ ∀ h' : As.H, h'.get 0 = some (.cells B false none) → CallOk Try.prog 62 [.ptr 0 0, spV (X j) (Y j)] h' (.int .i64 ((NI j : Nat) : Int)) h')
    (hlv : ∀ j, lv (j + 1) = lv j - (if NP j = true then 1 - gn L (NI j) else 0)) (hl0 : 0 ≤ lv 0) (hl30 : ∀ j, lv j ≤ 30)
    (hlt : ∀ n, ltB n (.cells B false none)) (halt : ∀ n, ltB n (.cells Z false none)) (hr2 : ∀ n, ltB (n + 16) R2) (hT1 : ∀ n, ltB (n + 16) (.loop (nbL (nbT1 x y v18 v20 v21 v22))))
    (ht0 : t0.get 0 = some (.yld 15)) (ht1 : t0.get 1 = some (.ptr 14 0)) (ht2 : t0.get 2 = some (.ptr 13 0)) (ht3 : t0.get 30 = some (.agg [.int .i64 x, .int .i64 ((y : Int) - 1), .int .i64 ((x : Int) - 1), .int .i64 y, .int .i64 ((x : Int) + 1), .int .i64 y, .int .i64 x, .int .i64 ((y : Int) + 1)])) (ht4 : t0.get 31 = some (.int .i64 0))
    (hr : ∀ j, j < 4 → NP j = true → ¬ NI j ∈ L → lv j = 0 → ∀ t' b17 b18 b19 b20 b21, Q .ret ⟨t', Try.f84.ntmps, [], ⟨ofB (nbM B Z R2 (.loop { nbL (nbT1 x y v18 v20 v21 v22) with state := .done, pending := some (.exit 1) }) x y (lv j) ++ [b17, b18, b19, b20, b21]) 0, 21, 0⟩⟩)
    (hx : 0 ≤ lv 4 → ∀ t', Q (.exit 0) ⟨t', Try.f84.ntmps, [], ⟨ofB (nbM B Z R2 (.loop (nbL (nbT1 x y v18 v20 v21 v22))) x y (lv 4)) 0, 16, 0⟩⟩) :
    WpR Try.prog 16 [] none (.loop bsC) ⟨t0, Try.f84.ntmps, [], ⟨ofB (nbM B Z R2 (.loop (nbL (nbT1 x y v18 v20 v21 v22))) x y (lv 0)) 0, 16, 0⟩⟩ Q := by
  have hMap := halt
  have hMapB := hr2
  have hMapD := hT1
  have hMapC := hlt
  have hq1 := hlt 16
  have hq2 := hr2 0
  have hq3 := hT1 0
  have hq4 := hlt 1000
  have hq5 := hr2 984
  have hq6 := hT1 984
  have hsq : ∀ (ρ : Nat → Nat) (p q : Int), p = q → SubQ ρ (.cells (ofL [.int .i64 p] 0) true none) (.cells (ofL [.int .i64 q] 0) true none) := fun ρ p q e => by subst e; exact SubQ.ofL rfl (fun v hv => by rw [List.mem_singleton.1 hv]; rfl) (.inr rfl)
  have hgs := fun ρ => hsq ρ (lv 0) (lv 0) rfl
  refine WpR.loopA (ι := Nat) [] [] [12] [] 16 (fun j => nbT x y j) (fun j => [(12, .cells (ofL [.int .i64 (lv j)] 0) true none)]) (fun j => 4 - j) (fun j => j ≤ 4 ∧ 0 ≤ lv j) ?_ (0) (⟨Nat.zero_le _, hl0⟩) [] ⟨rfl, rfl, (by (repeat' (first | exact True.intro | rfl | exact gr_ren rfl | exact aV_ren rfl | exact aW_ren rfl rfl | refine And.intro ?_ ?_))), ⟨ht0, ht1, ht2, ht3, ht4, trivial⟩, (by (repeat' (first | exact True.intro | rfl | exact gr_ren rfl | exact aV_ren rfl | exact aW_ren rfl rfl | refine And.intro ?_ ?_))), ⟨.inr ⟨_, rfl, hgs _⟩, trivial⟩, rfl, rfl⟩
  clear hgs
  rintro j ⟨hj, hlj⟩
  refine WpR.gen fun Q2 hQ2 => ?_
  show WpR Try.prog 16 [] none bsC ⟨setTs .leaf (nbT x y j), Try.f84.ntmps, [], ⟨ofB (nbM B Z R2 (.loop (nbL (nbT1 x y v18 v20 v21 v22))) x y (lv j)) 0, 16, 0⟩⟩ Q2
  by_cases hjl : j < 4
  · have hpj := hpart j hjl
    have hwj := hwk j hjl
    have hNj := hNb j hjl
    have hlj1 := hlv j
    have hlj30 := hl30 j
    clear hpart hwk hNb
    obtain ⟨Xj, hXj⟩ : ∃ z, X j = z := ⟨_, rfl⟩
    obtain ⟨Yj, hYj⟩ : ∃ z, Y j = z := ⟨_, rfl⟩
    obtain ⟨pj, hpj2⟩ : ∃ z, NP j = z := ⟨_, rfl⟩
    obtain ⟨i, hij⟩ : ∃ z, NI j = z := ⟨_, rfl⟩
    rw [hXj, hYj] at hpj hwj hNj
    rw [hpj2] at hwj hNj hlj1
    rw [hij] at hNj hlj1
    have kX := fun h' sv hs => within1_ok h' 0 ((W : Int) - 1) Xj sv hs
    have kY := fun h' sv hs => within1_ok h' 0 ((H : Int) - 1) Yj sv hs
    refine WpR.of_vc ?_
    by_cases h1 : 0 ≤ Xj ∧ Xj ≤ (W : Int) - 1
    · rw [decide_eq_true h1] at kX
      by_cases h2 : 0 ≤ Yj ∧ Yj ≤ (H : Int) - 1
      · rw [decide_eq_true h2] at kY
        have hp : pj = true := by rw [hwj]; exact decide_eq_true ⟨h1, h2⟩
        obtain ⟨hi36, kIi⟩ := hNj hp
        rw [if_pos hp] at hlj1
        have hashi := hash i
        by_cases hiL : i ∈ L
        · rw [decide_eq_true hiL] at hashi
          have hgi : gn L i = 1 := if_pos hiL
          have hgs := fun ρ => hsq ρ (lv (j + 1)) (lv j) (by omega)
          -- CASE c1
          (conv => whnf); (repeat' (first | ((with_reducible refine ifb_mk (fun hc => ?_) (fun hc => ?_)) <;> ((try simp only [decide_eq_true_eq, decide_eq_false_iff_not, Bool.not_eq_true', Bool.not_eq_false', Int.not_lt, Int.not_le, ne_eq, Decidable.not_not, beq_iff_eq, List.cons.injEq, and_true] at hc); (first | (exfalso; omega) | exact absurd True.intro hc | conv => whnf))) | ((with_reducible refine And.intro True.intro ?_); conv => whnf) | ((with_reducible refine grd_and ?_); refine And.intro (hjl) ?_; conv => whnf) | (refine som_mk (hpj) ?_; conv => whnf) | (refine som_mk (hg0) ?_; conv => whnf) | (refine som_mk (hg1) ?_; conv => whnf) | ((with_reducible refine WpR.drawTail (id := 3) mixed 25 [0, 1, 2, 3, 4, 5, 6, 7, 8, 9, 10, 11, 12, 13, 14, 15, 16, 17, 18, 19, 20, 21, 22, 23, 24] [0, 1, 3, 7, 15, 31, 0, 64, 192, 511, 1023, 2047, 4095, 8191, 16383, 32767, 65535, 2047, 133119, 395263, 1048575, 2097151, 4194303, 8388607, 8388607] ?hh ?hk ?_); (case hh => kernel_rfl); (case hk => kernel_rfl); conv => whnf) | ((with_reducible refine grd_ex ?_); refine ex_ok (kX _ _ (SlC.own rfl)) ?_; conv => whnf) | ((with_reducible refine grd_ex ?_); refine ex_ok (kY _ _ (SlC.own rfl)) ?_; conv => whnf) | ((with_reducible refine And.intro ?hh ?_); (case hh => exact condA); conv => whnf) | fail))
          refine YldX.all ?_
          refine YldW.inline rfl rfl rfl (WpR.of_vc ?_)
          conv => whnf
          refine ⟨rfl, _, rfl, rfl, WpR.of_vc ?_⟩
          (conv => whnf); (repeat' (first | ((with_reducible refine ifb_mk (fun hc => ?_) (fun hc => ?_)) <;> ((try simp only [decide_eq_true_eq, decide_eq_false_iff_not, Bool.not_eq_true', Bool.not_eq_false', Int.not_lt, Int.not_le, ne_eq, Decidable.not_not, beq_iff_eq, List.cons.injEq, and_true] at hc); (first | (exfalso; omega) | exact absurd True.intro hc | conv => whnf))) | ((with_reducible refine And.intro True.intro ?_); conv => whnf) | ((with_reducible refine CallX.all ?_); refine CallW.of_ok (kIi _ rfl) ?_; conv => whnf) | ((with_reducible refine CallX.all (f := 81) ?_); refine CallW.inline Try.func81 rfl rfl (Nat.le_of_ble_eq_true rfl) (WpR.of_vc ?_); conv => whnf) | (refine som_mk (hashi _ (by show 0 + Int.toNat _ * 1 = i; omega) hi36) ?_; conv => whnf) | ((with_reducible refine And.intro ?hh ?_); (case hh => exact condA); conv => whnf) | fail))
          refine ⟨_, _, rfl, ?_⟩
          (conv => whnf); (repeat' (first | ((with_reducible refine ifb_mk (fun hc => ?_) (fun hc => ?_)) <;> ((try simp only [decide_eq_true_eq, decide_eq_false_iff_not, Bool.not_eq_true', Bool.not_eq_false', Int.not_lt, Int.not_le, ne_eq, Decidable.not_not, beq_iff_eq, List.cons.injEq, and_true] at hc); (first | (exfalso; omega) | exact absurd True.intro hc | conv => whnf))) | ((with_reducible refine And.intro True.intro ?_); conv => whnf) | ((with_reducible refine And.intro ?hh ?_); (case hh => exact condA); conv => whnf) | fail))
          refine hQ2 _ _ ?_
          exact ⟨j + 1, [], by omega, ⟨by omega, by omega⟩, ⟨rfl, rfl, (by (repeat' (first | exact True.intro | rfl | exact gr_ren rfl | exact aV_ren rfl | exact aW_ren rfl rfl | refine And.intro ?_ ?_))), (by (repeat' (first | exact True.intro | rfl | exact gr_ren rfl | exact aV_ren rfl | exact aW_ren rfl rfl | refine And.intro ?_ ?_))), (by (repeat' (first | exact True.intro | rfl | exact gr_ren rfl | exact aV_ren rfl | exact aW_ren rfl rfl | refine And.intro ?_ ?_))), ⟨.inr ⟨_, rfl, hgs _⟩, trivial⟩, rfl, rfl⟩⟩
          -- END c1
        · rw [decide_eq_false hiL] at hashi
          have hgi : gn L i = 0 := if_neg hiL
          by_cases hl : lv j = 0
          · -- CASE c2
            (conv => whnf); (repeat' (first | ((with_reducible refine ifb_mk (fun hc => ?_) (fun hc => ?_)) <;> ((try simp only [decide_eq_true_eq, decide_eq_false_iff_not, Bool.not_eq_true', Bool.not_eq_false', Int.not_lt, Int.not_le, ne_eq, Decidable.not_not, beq_iff_eq, List.cons.injEq, and_true] at hc); (first | (exfalso; omega) | exact absurd True.intro hc | conv => whnf))) | ((with_reducible refine And.intro True.intro ?_); conv => whnf) | ((with_reducible refine grd_and ?_); refine And.intro (hjl) ?_; conv => whnf) | (refine som_mk (hpj) ?_; conv => whnf) | (refine som_mk (hg0) ?_; conv => whnf) | (refine som_mk (hg1) ?_; conv => whnf) | ((with_reducible refine WpR.drawTail (id := 3) mixed 25 [0, 1, 2, 3, 4, 5, 6, 7, 8, 9, 10, 11, 12, 13, 14, 15, 16, 17, 18, 19, 20, 21, 22, 23, 24] [0, 1, 3, 7, 15, 31, 0, 64, 192, 511, 1023, 2047, 4095, 8191, 16383, 32767, 65535, 2047, 133119, 395263, 1048575, 2097151, 4194303, 8388607, 8388607] ?hh ?hk ?_); (case hh => kernel_rfl); (case hk => kernel_rfl); conv => whnf) | ((with_reducible refine grd_ex ?_); refine ex_ok (kX _ _ (SlC.own rfl)) ?_; conv => whnf) | ((with_reducible refine grd_ex ?_); refine ex_ok (kY _ _ (SlC.own rfl)) ?_; conv => whnf) | ((with_reducible refine And.intro ?hh ?_); (case hh => exact condA); conv => whnf) | fail))
            refine YldX.all ?_
            refine YldW.inline rfl rfl rfl (WpR.of_vc ?_)
            conv => whnf
            refine ⟨rfl, _, rfl, rfl, WpR.of_vc ?_⟩
            (conv => whnf); (repeat' (first | ((with_reducible refine ifb_mk (fun hc => ?_) (fun hc => ?_)) <;> ((try simp only [decide_eq_true_eq, decide_eq_false_iff_not, Bool.not_eq_true', Bool.not_eq_false', Int.not_lt, Int.not_le, ne_eq, Decidable.not_not, beq_iff_eq, List.cons.injEq, and_true] at hc); (first | (exfalso; omega) | exact absurd True.intro hc | conv => whnf))) | ((with_reducible refine And.intro True.intro ?_); conv => whnf) | ((with_reducible refine CallX.all ?_); refine CallW.of_ok (kIi _ rfl) ?_; conv => whnf) | ((with_reducible refine CallX.all (f := 81) ?_); refine CallW.inline Try.func81 rfl rfl (Nat.le_of_ble_eq_true rfl) (WpR.of_vc ?_); conv => whnf) | (refine som_mk (hashi _ (by show 0 + Int.toNat _ * 1 = i; omega) hi36) ?_; conv => whnf) | ((with_reducible refine grd_and ?_); refine And.intro (hl) ?_; conv => whnf) | ((with_reducible refine And.intro ?hh ?_); (case hh => exact condA); conv => whnf) | fail))
            refine ⟨_, _, rfl, ?_⟩
            (conv => whnf); (repeat' (first | ((with_reducible refine ifb_mk (fun hc => ?_) (fun hc => ?_)) <;> ((try simp only [decide_eq_true_eq, decide_eq_false_iff_not, Bool.not_eq_true', Bool.not_eq_false', Int.not_lt, Int.not_le, ne_eq, Decidable.not_not, beq_iff_eq, List.cons.injEq, and_true] at hc); (first | (exfalso; omega) | exact absurd True.intro hc | conv => whnf))) | ((with_reducible refine And.intro True.intro ?_); conv => whnf) | ((with_reducible refine And.intro ?hh ?_); (case hh => exact condA); conv => whnf) | fail))
            refine hQ2 _ _ ?_
            exact hr j hjl (hpj2.trans hp) (by rw [hij]; exact hiL) hl _ _ _ _ _ _
            -- END c2
          · have hgs := fun ρ => hsq ρ (lv (j + 1)) (lv j - 1) (by omega)
            -- CASE c3
            (conv => whnf); (repeat' (first | ((with_reducible refine ifb_mk (fun hc => ?_) (fun hc => ?_)) <;> ((try simp only [decide_eq_true_eq, decide_eq_false_iff_not, Bool.not_eq_true', Bool.not_eq_false', Int.not_lt, Int.not_le, ne_eq, Decidable.not_not, beq_iff_eq, List.cons.injEq, and_true] at hc); (first | (exfalso; omega) | exact absurd True.intro hc | conv => whnf))) | ((with_reducible refine And.intro True.intro ?_); conv => whnf) | ((with_reducible refine grd_and ?_); refine And.intro (hjl) ?_; conv => whnf) | (refine som_mk (hpj) ?_; conv => whnf) | (refine som_mk (hg0) ?_; conv => whnf) | (refine som_mk (hg1) ?_; conv => whnf) | ((with_reducible refine WpR.drawTail (id := 3) mixed 25 [0, 1, 2, 3, 4, 5, 6, 7, 8, 9, 10, 11, 12, 13, 14, 15, 16, 17, 18, 19, 20, 21, 22, 23, 24] [0, 1, 3, 7, 15, 31, 0, 64, 192, 511, 1023, 2047, 4095, 8191, 16383, 32767, 65535, 2047, 133119, 395263, 1048575, 2097151, 4194303, 8388607, 8388607] ?hh ?hk ?_); (case hh => kernel_rfl); (case hk => kernel_rfl); conv => whnf) | ((with_reducible refine grd_ex ?_); refine ex_ok (kX _ _ (SlC.own rfl)) ?_; conv => whnf) | ((with_reducible refine grd_ex ?_); refine ex_ok (kY _ _ (SlC.own rfl)) ?_; conv => whnf) | ((with_reducible refine And.intro ?hh ?_); (case hh => exact condA); conv => whnf) | fail))
            refine YldX.all ?_
            refine YldW.inline rfl rfl rfl (WpR.of_vc ?_)
            conv => whnf
            refine ⟨rfl, _, rfl, rfl, WpR.of_vc ?_⟩
            (conv => whnf); (repeat' (first | ((with_reducible refine ifb_mk (fun hc => ?_) (fun hc => ?_)) <;> ((try simp only [decide_eq_true_eq, decide_eq_false_iff_not, Bool.not_eq_true', Bool.not_eq_false', Int.not_lt, Int.not_le, ne_eq, Decidable.not_not, beq_iff_eq, List.cons.injEq, and_true] at hc); (first | (exfalso; omega) | exact absurd True.intro hc | conv => whnf))) | ((with_reducible refine And.intro True.intro ?_); conv => whnf) | ((with_reducible refine CallX.all ?_); refine CallW.of_ok (kIi _ rfl) ?_; conv => whnf) | ((with_reducible refine CallX.all (f := 81) ?_); refine CallW.inline Try.func81 rfl rfl (Nat.le_of_ble_eq_true rfl) (WpR.of_vc ?_); conv => whnf) | (refine som_mk (hashi _ (by show 0 + Int.toNat _ * 1 = i; omega) hi36) ?_; conv => whnf) | ((with_reducible refine grd_and ?_); refine And.intro (hl) ?_; conv => whnf) | ((with_reducible refine And.intro ?hh ?_); (case hh => exact condA); conv => whnf) | fail))
            refine ⟨_, _, rfl, ?_⟩
            (conv => whnf); (repeat' (first | ((with_reducible refine ifb_mk (fun hc => ?_) (fun hc => ?_)) <;> ((try simp only [decide_eq_true_eq, decide_eq_false_iff_not, Bool.not_eq_true', Bool.not_eq_false', Int.not_lt, Int.not_le, ne_eq, Decidable.not_not, beq_iff_eq, List.cons.injEq, and_true] at hc); (first | (exfalso; omega) | exact absurd True.intro hc | conv => whnf))) | ((with_reducible refine And.intro True.intro ?_); conv => whnf) | ((with_reducible refine And.intro ?hh ?_); (case hh => exact condA); conv => whnf) | fail))
            refine hQ2 _ _ ?_
            exact ⟨j + 1, [], by omega, ⟨by omega, by omega⟩, ⟨rfl, rfl, (by (repeat' (first | exact True.intro | rfl | exact gr_ren rfl | exact aV_ren rfl | exact aW_ren rfl rfl | refine And.intro ?_ ?_))), (by (repeat' (first | exact True.intro | rfl | exact gr_ren rfl | exact aV_ren rfl | exact aW_ren rfl rfl | refine And.intro ?_ ?_))), (by (repeat' (first | exact True.intro | rfl | exact gr_ren rfl | exact aV_ren rfl | exact aW_ren rfl rfl | refine And.intro ?_ ?_))), ⟨.inr ⟨_, rfl, hgs _⟩, trivial⟩, rfl, rfl⟩⟩
            -- END c3
      · rw [decide_eq_false h2] at kY
        have hp : pj = false := by rw [hwj]; exact decide_eq_false fun hc => h2 hc.2
        rw [if_neg (by rw [hp]; decide)] at hlj1
        have hgs := fun ρ => hsq ρ (lv (j + 1)) (lv j) (by omega)
        -- CASE c4
        (conv => whnf); (repeat' (first | ((with_reducible refine ifb_mk (fun hc => ?_) (fun hc => ?_)) <;> ((try simp only [decide_eq_true_eq, decide_eq_false_iff_not, Bool.not_eq_true', Bool.not_eq_false', Int.not_lt, Int.not_le, ne_eq, Decidable.not_not, beq_iff_eq, List.cons.injEq, and_true] at hc); (first | (exfalso; omega) | exact absurd True.intro hc | conv => whnf))) | ((with_reducible refine And.intro True.intro ?_); conv => whnf) | ((with_reducible refine grd_and ?_); refine And.intro (hjl) ?_; conv => whnf) | (refine som_mk (hpj) ?_; conv => whnf) | (refine som_mk (hg0) ?_; conv => whnf) | (refine som_mk (hg1) ?_; conv => whnf) | ((with_reducible refine WpR.drawTail (id := 3) mixed 25 [0, 1, 2, 3, 4, 5, 6, 7, 8, 9, 10, 11, 12, 13, 14, 15, 16, 17, 18, 19, 20, 21, 22, 23, 24] [0, 1, 3, 7, 15, 31, 0, 64, 192, 511, 1023, 2047, 4095, 8191, 16383, 32767, 65535, 2047, 133119, 395263, 1048575, 2097151, 4194303, 8388607, 8388607] ?hh ?hk ?_); (case hh => kernel_rfl); (case hk => kernel_rfl); conv => whnf) | ((with_reducible refine grd_ex ?_); refine ex_ok (kX _ _ (SlC.own rfl)) ?_; conv => whnf) | ((with_reducible refine grd_ex ?_); refine ex_ok (kY _ _ (SlC.own rfl)) ?_; conv => whnf) | ((with_reducible refine And.intro ?hh ?_); (case hh => exact condA); conv => whnf) | fail))
        refine hQ2 _ _ ?_
        exact ⟨j + 1, [], by omega, ⟨by omega, by omega⟩, ⟨rfl, rfl, (by (repeat' (first | exact True.intro | rfl | exact gr_ren rfl | exact aV_ren rfl | exact aW_ren rfl rfl | refine And.intro ?_ ?_))), (by (repeat' (first | exact True.intro | rfl | exact gr_ren rfl | exact aV_ren rfl | exact aW_ren rfl rfl | refine And.intro ?_ ?_))), (by (repeat' (first | exact True.intro | rfl | exact gr_ren rfl | exact aV_ren rfl | exact aW_ren rfl rfl | refine And.intro ?_ ?_))), ⟨.inr ⟨_, rfl, hgs _⟩, trivial⟩, rfl, rfl⟩⟩
        -- END c4
    · rw [decide_eq_false h1] at kX
      have hp : pj = false := by rw [hwj]; exact decide_eq_false fun hc => h1 hc.1
      rw [if_neg (by rw [hp]; decide)] at hlj1
      have hgs := fun ρ => hsq ρ (lv (j + 1)) (lv j) (by omega)
      -- CASE c5
      (conv => whnf); (repeat' (first | ((with_reducible refine ifb_mk (fun hc => ?_) (fun hc => ?_)) <;> ((try simp only [decide_eq_true_eq, decide_eq_false_iff_not, Bool.not_eq_true', Bool.not_eq_false', Int.not_lt, Int.not_le, ne_eq, Decidable.not_not, beq_iff_eq, List.cons.injEq, and_true] at hc); (first | (exfalso; omega) | exact absurd True.intro hc | conv => whnf))) | ((with_reducible refine And.intro True.intro ?_); conv => whnf) | ((with_reducible refine grd_and ?_); refine And.intro (hjl) ?_; conv => whnf) | (refine som_mk (hpj) ?_; conv => whnf) | (refine som_mk (hg0) ?_; conv => whnf) | (refine som_mk (hg1) ?_; conv => whnf) | ((with_reducible refine WpR.drawTail (id := 3) mixed 25 [0, 1, 2, 3, 4, 5, 6, 7, 8, 9, 10, 11, 12, 13, 14, 15, 16, 17, 18, 19, 20, 21, 22, 23, 24] [0, 1, 3, 7, 15, 31, 0, 64, 192, 511, 1023, 2047, 4095, 8191, 16383, 32767, 65535, 2047, 133119, 395263, 1048575, 2097151, 4194303, 8388607, 8388607] ?hh ?hk ?_); (case hh => kernel_rfl); (case hk => kernel_rfl); conv => whnf) | ((with_reducible refine grd_ex ?_); refine ex_ok (kX _ _ (SlC.own rfl)) ?_; conv => whnf) | ((with_reducible refine grd_ex ?_); refine ex_ok (kY _ _ (SlC.own rfl)) ?_; conv => whnf) | ((with_reducible refine And.intro ?hh ?_); (case hh => exact condA); conv => whnf) | fail))
      refine hQ2 _ _ ?_
      exact ⟨j + 1, [], by omega, ⟨by omega, by omega⟩, ⟨rfl, rfl, (by (repeat' (first | exact True.intro | rfl | exact gr_ren rfl | exact aV_ren rfl | exact aW_ren rfl rfl | refine And.intro ?_ ?_))), (by (repeat' (first | exact True.intro | rfl | exact gr_ren rfl | exact aV_ren rfl | exact aW_ren rfl rfl | refine And.intro ?_ ?_))), (by (repeat' (first | exact True.intro | rfl | exact gr_ren rfl | exact aV_ren rfl | exact aW_ren rfl rfl | refine And.intro ?_ ?_))), ⟨.inr ⟨_, rfl, hgs _⟩, trivial⟩, rfl, rfl⟩⟩
      -- END c5
  · have e : j = 4 := by omega
    subst e
    refine WpR.of_vc ?_
    -- CASE c6
    (conv => whnf); (repeat' (first | ((with_reducible refine ifb_mk (fun hc => ?_) (fun hc => ?_)) <;> ((try simp only [decide_eq_true_eq, decide_eq_false_iff_not, Bool.not_eq_true', Bool.not_eq_false', Int.not_lt, Int.not_le, ne_eq, Decidable.not_not, beq_iff_eq, List.cons.injEq, and_true] at hc); (first | (exfalso; omega) | exact absurd True.intro hc | conv => whnf))) | ((with_reducible refine And.intro True.intro ?_); conv => whnf) | ((with_reducible refine grd_and ?_); refine And.intro (hjl) ?_; conv => whnf) | ((with_reducible refine And.intro ?hh ?_); (case hh => exact condA); conv => whnf) | fail))
    refine hQ2 _ _ ?_
    exact hx hlj _
    -- END c6
end Go.Proofs.H

namespace Go.Proofs.H
open Go.As
set_option maxRecDepth 20000
set_option linter.unusedVariables false
set_option linter.unusedSimpArgs false

theorem fstV_lt (W n i : Nat) : ltV 0 (fstV W n i) = true := by unfold fstV; split <;> rfl
set_option maxHeartbeats 8000000 in
theorem next_ok (h : As.H) (s ash bx : Nat) (W H : Nat) (hW : 1 ≤ W ∧ W ≤ 6) (hH : 1 ≤ H ∧ H ≤ 6) (B : Tr V) (a : Nat → Int) (hg0 : B.get 0 = some (.int .i64 W)) (hg1 : B.get 1 = some (.int .i64 H)) (hgnow : ∀ i o, o = 3 + i → i < 36 → B.get o = some (.int .i64 (a i))) (hlt : ∀ n, ltB n (.cells B false none)) (ha : ∀ k, k < W * H → 0 ≤ a k ∧ a k ≤ 30) (L : List Nat)
    (hv : ViewM h [some (s, 0), some (ash, 0), some (bx, 0)] [.cells B false none, ashB L, .cells (ofL [.ptr 0 0] 0) false none]) :
    CallOk Try.prog 80 [.ptr s 0, burntF ash bx] h (fstV W (W * H) (fst4 (okI W H a L) (W * H))) h := by
  refine CallOk.run Try.func80 rfl rfl (argsC := [.ptr 0 0, burntF 1 2]) (Nat.le_of_ble_eq_true rfl) [some (s, 0), some (ash, 0), some (bx, 0)] (.cons (.ptr (i := 0) rfl) (.cons (.fn rfl (fun i v w h1 h2 => by simp at h1) rfl (fun i v w h1 h2 => ?_)) .nil)) hv (fstV_lt _ _ _) (WpR.of_vc ?_)
  · match i, h1, h2 with
    | 0, h1, h2 => cases h1; cases h2; exact .ptr (i := 0) rfl
    | 1, h1, h2 => cases h1; cases h2; exact .ptr (i := 0) rfl
    | i + 2, h1, h2 => simp at h1
  have hwh := wh_le hW hH
  have kZ := fun h' (hs : h'.get 0 = some (.cells B false none)) => size_ok h' 0 W H hW hH hs hg0 hg1
  have kA := fun h' i (hs : h'.get 0 = some (.cells B false none)) hi => spotAt_ok h' 0 W H i hW hs hg0 hg1 hi
  have kI := fun i p2 p3 (h' : As.H) (hs : h'.get 0 = some (.cells B false none)) => index_ok h' 0 W H (i % W) (i / W) p2 p3 hW hs hg0 hg1
  have hat := fun i hi => @fst4_at (okI W H a L) (W * H) i hi
  have hno := @fst4_n (okI W H a L) (W * H)
  have hin := fun i (hi : i ∈ L) => @okI_in W H a L i hi
  have hfew := fun i (hi : a i < cP W H L i 4) => okI_few hi
  have hyes := fun i (h0 : ¬ i ∈ L) (hi : cP W H L i 4 ≤ a i) => okI_yes h0 hi
  have hpos := fun i (hi : i < W * H) => pos_lt hW hH hi
  have hash : ∀ i o, o = i → i < 36 → (ashC L).get o = some (.bool (decide (i ∈ L))) := fun i o => ash_get
  have hasub : ∀ ρ : Nat → Nat, SubQ ρ (ashB L) (ashB L) := fun ρ => ash_sub
  have halt : ∀ n, ltB n (ashB L) := fun n => ash_lt
  have hnb := fun i (hi : i < W * H) j (hj : j < 4) => nb_in hW hH hi hj
  have hna := fun i (hi : i < W * H) j (hj : j < 4) hp => nb_at hW hH hi hj hp
  have hcl := fun i j (hj : j ≤ 4) => cP_le W H L i hj
  have hcr := cP_rng W H L
  have hcs : ∀ i j, cP W H L i (j + 1) = cP W H L i j + (if nbP W H i j = true then 1 - gn L (nbI W i j) else 0) := fun i j => rfl
  have hc0 : ∀ i, cP W H L i 0 = 0 := fun i => rfl
  generalize cP W H L = P at *
  generalize okI W H a L = O at *
  generalize hI : fst4 O (W * H) = I at *
  generalize hA2 : ashB L = A2 at hasub halt ⊢
  unfold ashB at hA2
  subst hA2
  generalize ashC L = Z at *
  generalize hn : W * H = n at *
  unfold burntF
  (conv => whnf); (repeat' (first | ((with_reducible refine ifb_mk (fun hc => ?_) (fun hc => ?_)) <;> ((try simp only [decide_eq_true_eq, decide_eq_false_iff_not, Bool.not_eq_true', Bool.not_eq_false', Int.not_lt, Int.not_le, ne_eq, Decidable.not_not, beq_iff_eq, List.cons.injEq, and_true] at hc); (first | (exfalso; omega) | exact absurd True.intro hc | conv => whnf))) | ((with_reducible refine And.intro True.intro ?_); conv => whnf) | ((with_reducible refine CallX.all ?_); refine CallW.of_ok (kZ _ rfl) ?_; conv => whnf) | ((with_reducible refine CallX.all (f := 61) ?_); refine CallW.inline Try.func61 rfl rfl (Nat.le_of_ble_eq_true rfl) (WpR.of_vc ?_); conv => whnf) | ((with_reducible refine RangeX.all ?_); conv => whnf) | ((with_reducible refine CallW.inline (f := 78) Try.func78 rfl rfl (Nat.le_of_ble_eq_true rfl) (WpR.of_vc ?_)); conv => whnf) | ((with_reducible refine And.intro ?hh ?_); (case hh => exact condA); conv => whnf) | fail))
  have hq1 := hlt 10
  have hq3 := halt 10
  have hq4 := hlt 1000
  have hq6 := halt 1000
  refine WpR.loopGA 1 (ι := Nat) [] [0, 1, 5] [] [] 10 (fun k => [(6, .int .i64 k)]) (fun _ => []) (fun k => n - k) (fun k => k ≤ n ∧ ∀ j, j < k → O j ≤ 3) ?_ (0) (⟨Nat.zero_le _, fun j hj => by omega⟩) [] Back.auto
  rintro k ⟨hk, hle⟩
  refine WpR.of_vc ?_
  by_cases hkl : k < n
  · have kAk := fun h' hs => kA h' k hs (by omega)
    obtain ⟨p1, p2, p3, p4, p5⟩ := hpos k hkl
    have kIk := kI k p2 p3
    rw [idx_eq] at kIk
    have hashk := hash k
    by_cases hkL : k ∈ L
    · rw [decide_eq_true hkL] at hashk
      (conv => whnf); (repeat' (first | ((with_reducible refine ifb_mk (fun hc => ?_) (fun hc => ?_)) <;> ((try simp only [decide_eq_true_eq, decide_eq_false_iff_not, Bool.not_eq_true', Bool.not_eq_false', Int.not_lt, Int.not_le, ne_eq, Decidable.not_not, beq_iff_eq, List.cons.injEq, and_true] at hc); (first | (exfalso; omega) | exact absurd True.intro hc | conv => whnf))) | ((with_reducible refine And.intro True.intro ?_); conv => whnf) | ((with_reducible refine grd_and ?_); refine And.intro (hkl) ?_; conv => whnf) | ((with_reducible refine CallX.all ?_); refine CallW.of_ok (kAk _ rfl) ?_; conv => whnf) | ((with_reducible refine And.intro ?hh ?_); (case hh => exact condA); conv => whnf) | fail))
      refine YldX.all ?_
      refine YldW.inline rfl rfl rfl (WpR.of_vc ?_)
      conv => whnf
      refine ⟨rfl, _, rfl, rfl, WpR.of_vc ?_⟩
      (conv => whnf); (repeat' (first | ((with_reducible refine ifb_mk (fun hc => ?_) (fun hc => ?_)) <;> ((try simp only [decide_eq_true_eq, decide_eq_false_iff_not, Bool.not_eq_true', Bool.not_eq_false', Int.not_lt, Int.not_le, ne_eq, Decidable.not_not, beq_iff_eq, List.cons.injEq, and_true] at hc); (first | (exfalso; omega) | exact absurd True.intro hc | conv => whnf))) | ((with_reducible refine And.intro True.intro ?_); conv => whnf) | ((with_reducible refine CallX.all ?_); refine CallW.of_ok (kIk _ rfl) ?_; conv => whnf) | ((with_reducible refine CallX.all (f := 81) ?_); refine CallW.inline Try.func81 rfl rfl (Nat.le_of_ble_eq_true rfl) (WpR.of_vc ?_); conv => whnf) | (refine som_mk (hashk _ (by show 0 + Int.toNat _ * 1 = k; omega) p1) ?_; conv => whnf) | ((with_reducible refine And.intro ?hh ?_); (case hh => exact condA); conv => whnf) | fail))
      refine ⟨_, _, rfl, ?_⟩
      (conv => whnf); (repeat' (first | ((with_reducible refine ifb_mk (fun hc => ?_) (fun hc => ?_)) <;> ((try simp only [decide_eq_true_eq, decide_eq_false_iff_not, Bool.not_eq_true', Bool.not_eq_false', Int.not_lt, Int.not_le, ne_eq, Decidable.not_not, beq_iff_eq, List.cons.injEq, and_true] at hc); (first | (exfalso; omega) | exact absurd True.intro hc | conv => whnf))) | ((with_reducible refine And.intro True.intro ?_); conv => whnf) | ((with_reducible refine And.intro ?hh ?_); (case hh => exact condA); conv => whnf) | fail))
      exact ⟨k + 1, [], by omega, ⟨by omega, fun j hj => by by_cases he : j = k; (subst he; exact hin _ hkL); exact hle j (by omega)⟩, Back.auto⟩
    · rw [decide_eq_false hkL] at hashk
      (conv => whnf); (repeat' (first | ((with_reducible refine ifb_mk (fun hc => ?_) (fun hc => ?_)) <;> ((try simp only [decide_eq_true_eq, decide_eq_false_iff_not, Bool.not_eq_true', Bool.not_eq_false', Int.not_lt, Int.not_le, ne_eq, Decidable.not_not, beq_iff_eq, List.cons.injEq, and_true] at hc); (first | (exfalso; omega) | exact absurd True.intro hc | conv => whnf))) | ((with_reducible refine And.intro True.intro ?_); conv => whnf) | ((with_reducible refine grd_and ?_); refine And.intro (hkl) ?_; conv => whnf) | ((with_reducible refine CallX.all ?_); refine CallW.of_ok (kAk _ rfl) ?_; conv => whnf) | ((with_reducible refine And.intro ?hh ?_); (case hh => exact condA); conv => whnf) | fail))
      refine YldX.all ?_
      refine YldW.inline rfl rfl rfl (WpR.of_vc ?_)
      conv => whnf
      refine ⟨rfl, _, rfl, rfl, WpR.of_vc ?_⟩
      have hgk : ∀ o, o = 3 + k → B.get o = some (.int .i64 (a k)) := fun o ho => hgnow k o ho p1
      have hak := ha k hkl
      have hNb : ∀ j, j < 4 → nbP W H k j = true → nbI W k j < 36 ∧ ∀ h' : As.H, h'.get 0 = some (.cells B false none) → CallOk Try.prog 62 [.ptr 0 0, spV (nbX W k j) (nbY W k j)] h' (.int .i64 ((nbI W k j : Nat) : Int)) h' := fun j hj hp => by
        obtain ⟨q1, q2, q3⟩ := hna k hkl j hj hp
        obtain ⟨r1, r2, r3, r4, r5⟩ := hpos _ q1
        refine ⟨r1, fun h' hs => ?_⟩
        have := kI (nbI W k j) r2 r3 h' hs
        rw [idx_eq, ← q2, ← q3] at this
        exact this
      have hwk := fun j hj => hnb k hkl j hj
      have hpart : ∀ j : Nat, j < 4 → part? Try.prog 75 [.int .i64 (k % W : Nat), .int .i64 ((k / W : Nat) - 1), .int .i64 ((k % W : Nat) - 1), .int .i64 (k / W : Nat), .int .i64 ((k % W : Nat) + 1), .int .i64 (k / W : Nat), .int .i64 (k % W : Nat), .int .i64 ((k / W : Nat) + 1)] ((j : Int).toNat * 2) = some (spV (nbX W k j) (nbY W k j)) := fun j hj => by
        match j, hj with
        | 0, _ => rfl
        | 1, _ => rfl
        | 2, _ => rfl
        | 3, _ => rfl
      have hPs : ∀ j, P k (j + 1) = P k j + (if nbP W H k j = true then 1 - gn L (nbI W k j) else 0) := hcs k
      have hP0 : P k 0 = 0 := hc0 k
      have hPl := hcl k
      have hPr := hcr k
      have hPf := hfew k
      have hPy := hyes k hkL
      have hOk : ∀ j : Nat, j < k + 1 → O k ≤ 3 → O j ≤ 3 := fun j hj h3 => by
        by_cases he : j = k
        · subst he; exact h3
        · exact hle j (by omega)
      have hIk : 3 < O k → I = k := fun h3 => hat k hkl h3 hle
      have hsp : fstV W n k = .tup [spV (k % W : Nat) (k / W : Nat), .bool true] := if_pos hkl
      clear hnb hna hcs hc0 hcl hcr hfew hyes kI hpos hgnow hin
      generalize fstV W n = FV at *
      generalize P k = P1 at *
      generalize nbX W k = X at *
      generalize nbY W k = Y at *
      generalize nbI W k = NI at *
      generalize nbP W H k = NP at *
      generalize k % W = x at *
      generalize k / W = y at *
      (conv => whnf); (repeat' (first | ((with_reducible refine ifb_mk (fun hc => ?_) (fun hc => ?_)) <;> ((try simp only [decide_eq_true_eq, decide_eq_false_iff_not, Bool.not_eq_true', Bool.not_eq_false', Int.not_lt, Int.not_le, ne_eq, Decidable.not_not, beq_iff_eq, List.cons.injEq, and_true] at hc); (first | (exfalso; omega) | exact absurd True.intro hc | conv => whnf))) | ((with_reducible refine And.intro True.intro ?_); conv => whnf) | ((with_reducible refine CallX.all ?_); refine CallW.of_ok (kIk _ rfl) ?_; conv => whnf) | ((with_reducible refine grd_ex ?_); refine ex_ok (kIk _ rfl) ?_; conv => whnf) | ((with_reducible refine CallX.all (f := 81) ?_); refine CallW.inline Try.func81 rfl rfl (Nat.le_of_ble_eq_true rfl) (WpR.of_vc ?_); conv => whnf) | (refine som_mk (hashk _ (by show 0 + Int.toNat _ * 1 = k; omega) p1) ?_; conv => whnf) | ((with_reducible refine WpR.draw (id := 4) mixed [0, 1, 2, 4, 5, 8, 3, 6, 7, 9] [0, 0, 0, 6, 1, 17, 63, 127, 0, 511] ?hh ?_); (case hh => kernel_rfl); conv => whnf) | (refine som_mk (hgk _ (by show 3 + Int.toNat _ * 1 = 3 + k; omega)) ?_; conv => whnf) | ((with_reducible refine CallX.all (f := 77) ?_); refine CallW.inline Try.func77 rfl rfl (Nat.le_of_ble_eq_true rfl) (WpR.of_vc ?_); conv => whnf) | ((with_reducible refine RangeX.all ?_); conv => whnf) | ((with_reducible refine CallW.inline (f := 84) Try.func84 rfl rfl (Nat.le_of_ble_eq_true rfl) (WpR.of_vc ?_)); conv => whnf) | ((with_reducible refine And.intro ?hh ?_); (case hh => exact condA); conv => whnf) | fail))
      obtain ⟨lv, hlv⟩ : ∃ lv : Nat → Int, ∀ j, lv j = a k - P1 j := ⟨fun j => _, fun j => rfl⟩
      have hl0 : lv 0 = a k := by rw [hlv, hP0]; omega
      refine WpR.gen fun Q hQ => ?_
      have hmain := fun R2 v20 v21 (hr2 : ∀ n, ltB (n + 16) R2) hT1 t0 h0 h1 h2 h3 h4 => inner_w W H x y hW hH B Z R2 (.int .i64 k) v20 v21 (.int .i64 (a k)) t0 L NP NI X Y lv Q hg0 hg1 hash hpart hwk hNb (fun j => by rw [hlv, hlv, hPs j]; omega) (by rw [hl0]; exact hak.1) (fun j => by rw [hlv]; have := (hPr j).1; omega) hlt halt hr2 hT1 h0 h1 h2 h3 h4
      rw [hl0] at hmain
      refine hmain _ _ _ ?_ ?_ _ rfl rfl rfl rfl rfl ?_ ?_
      · exact fun n => ltB_loop rfl rfl
      · exact fun n => ltB_loop rfl rfl
      · intro j hj hp hiL hl t' b17 b18 b19 b20 b21
        have hs := hPs j
        rw [if_pos hp, show gn L (NI j) = 0 from if_neg hiL] at hs
        have h4 := hPl (j + 1) (by omega)
        have h3 := hPf (by have := hlv j; omega)
        -- CASE d1
        refine hQ _ _ ?_
        (conv => whnf); (repeat' (first | ((with_reducible refine ifb_mk (fun hc => ?_) (fun hc => ?_)) <;> ((try simp only [decide_eq_true_eq, decide_eq_false_iff_not, Bool.not_eq_true', Bool.not_eq_false', Int.not_lt, Int.not_le, ne_eq, Decidable.not_not, beq_iff_eq, List.cons.injEq, and_true] at hc); (first | (exfalso; omega) | exact absurd True.intro hc | conv => whnf))) | ((with_reducible refine And.intro True.intro ?_); conv => whnf) | ((with_reducible refine And.intro ?hh ?_); (case hh => exact condA); conv => whnf) | fail))
        refine ⟨_, _, rfl, ?_⟩
        (conv => whnf); (repeat' (first | ((with_reducible refine ifb_mk (fun hc => ?_) (fun hc => ?_)) <;> ((try simp only [decide_eq_true_eq, decide_eq_false_iff_not, Bool.not_eq_true', Bool.not_eq_false', Int.not_lt, Int.not_le, ne_eq, Decidable.not_not, beq_iff_eq, List.cons.injEq, and_true] at hc); (first | (exfalso; omega) | exact absurd True.intro hc | conv => whnf))) | ((with_reducible refine And.intro True.intro ?_); conv => whnf) | ((with_reducible refine And.intro ?hh ?_); (case hh => exact condA); conv => whnf) | fail))
        exact ⟨k + 1, [], by omega, ⟨by omega, fun j' hj' => hOk j' hj' h3⟩, Back.auto⟩
        -- END d1
      · intro h4 t'
        have h3 := hPy (by have := hlv 4; omega)
        -- CASE d2
        refine hQ _ _ ?_
        rw [hIk h3, hsp]
        (conv => whnf); (repeat' (first | ((with_reducible refine ifb_mk (fun hc => ?_) (fun hc => ?_)) <;> ((try simp only [decide_eq_true_eq, decide_eq_false_iff_not, Bool.not_eq_true', Bool.not_eq_false', Int.not_lt, Int.not_le, ne_eq, Decidable.not_not, beq_iff_eq, List.cons.injEq, and_true] at hc); (first | (exfalso; omega) | exact absurd True.intro hc | conv => whnf))) | ((with_reducible refine And.intro True.intro ?_); conv => whnf) | ((with_reducible refine And.intro ?hh ?_); (case hh => exact condA); conv => whnf) | fail))
        refine ⟨_, _, rfl, ?_⟩
        (conv => whnf); (repeat' (first | ((with_reducible refine ifb_mk (fun hc => ?_) (fun hc => ?_)) <;> ((try simp only [decide_eq_true_eq, decide_eq_false_iff_not, Bool.not_eq_true', Bool.not_eq_false', Int.not_lt, Int.not_le, ne_eq, Decidable.not_not, beq_iff_eq, List.cons.injEq, and_true] at hc); (first | (exfalso; omega) | exact absurd True.intro hc | conv => whnf))) | ((with_reducible refine And.intro True.intro ?_); conv => whnf) | ((with_reducible refine And.intro ?hh ?_); (case hh => exact condA); conv => whnf) | fail))
        exact ⟨[], rfl, rfl, rfl, trivial, trivs⟩
        -- END d2
  · have e : I = n := hno fun j hj => hle j (by omega)
    subst e
    unfold fstV
    rw [if_neg (Nat.lt_irrefl _)]
    (conv => whnf); (repeat' (first | ((with_reducible refine ifb_mk (fun hc => ?_) (fun hc => ?_)) <;> ((try simp only [decide_eq_true_eq, decide_eq_false_iff_not, Bool.not_eq_true', Bool.not_eq_false', Int.not_lt, Int.not_le, ne_eq, Decidable.not_not, beq_iff_eq, List.cons.injEq, and_true] at hc); (first | (exfalso; omega) | exact absurd True.intro hc | conv => whnf))) | ((with_reducible refine And.intro True.intro ?_); conv => whnf) | ((with_reducible refine grd_and ?_); refine And.intro (hkl) ?_; conv => whnf) | ((with_reducible refine And.intro ?hh ?_); (case hh => exact condA); conv => whnf) | fail))
    exact ⟨[], rfl, rfl, rfl, trivial, trivs⟩
end Go.Proofs.H

namespace Go.Proofs.H
open Go.As
set_option maxRecDepth 20000
set_option linter.unusedVariables false
set_option linter.unusedSimpArgs false

/-! ### The block, as far as it is looked at -/

def pF (W H : Int) (D : V) (a : Nat → Int) (k : Nat) : V := if k < 3 then (if k = 0 then .int .i64 W else if k = 1 then .int .i64 H else D) else .int .i64 (a (k - 3))
noncomputable def PC (W H : Int) (D : V) (a : Nat → Int) : Tr V := ofL (arrV 39 (pF W H D a)) 0
section
variable {W H : Int} {D : V} {a : Nat → Int}
theorem pF_bare (hD : bare0 D = true) (k : Nat) : bare0 (pF W H D a k) = true := by
  unfold pF
  (repeat' split) <;> first | rfl | exact hD
theorem pc_some {k : Nat} {v : V} (h : (PC W H D a).get k = some v) : k < 39 ∧ v = pF W H D a k := by
  unfold PC at h
  rw [get_ofL, if_pos (Nat.zero_le _), Nat.sub_zero] at h
  have hk : k < 39 := by have := (List.getElem?_eq_some_iff.1 h).1; rwa [arrV_len] at this
  rw [arrV_at hk] at h
  exact ⟨hk, (Option.some.inj h).symm⟩
theorem pc_at {k : Nat} (h : k < 39) : (PC W H D a).get k = some (pF W H D a k) := arrV_get rfl h
theorem pc_0 : (PC W H D a).get 0 = some (.int .i64 W) := pc_at (by decide)
theorem pc_1 : (PC W H D a).get 1 = some (.int .i64 H) := pc_at (by decide)
theorem pc_a {o i : Nat} (ho : o = 3 + i) (hi : i < 36) : (PC W H D a).get o = some (.int .i64 (a i)) := by
  subst ho
  rw [pc_at (by omega)]
  unfold pF
  rw [if_neg (by omega), Nat.add_sub_cancel_left]
theorem pc_lt (hD : bare0 D = true) {n : Nat} : ltB n (.cells (PC W H D a) false none) := ltB_ofLb (arrV_bare (pF_bare hD))
theorem pc_view1 {h : As.H} {s : Nat} {c : Tr V} {w : Bool} {g : Option (Nat × Nat)} (hD : bare0 D = true) (vs : Vw) (hs : h.get s = some (.cells c w g)) (hc : ∀ k, k < 39 → c.get k = some (pF W H D a k)) : ViewM1 h vs (.cells (PC W H D a) false none) (some (s, 0)) := by
  refine ⟨⟨rfl, rfl⟩, fun j o hj => ?_⟩
  cases hj
  refine ⟨_, _, _, hs, fun i d hd => ?_⟩
  obtain ⟨hk, rfl⟩ := pc_some hd
  have hb := pF_bare (W := W) (H := H) (a := a) hD i
  exact ⟨by revert hb; generalize pF W H D a i = v; cases v <;> first | (intro _; rfl) | (intro h; cases h), _, by rw [Nat.zero_add]; exact hc i hk, .bare hb⟩
end
theorem ash_view1 {h : As.H} {s : Nat} {L : List Nat} {w : Bool} {g : Option (Nat × Nat)} (vs : Vw) (hs : h.get s = some (.cells (ashC L) w g)) : ViewM1 h vs (ashB L) (some (s, 0)) := by
  refine ⟨⟨rfl, rfl⟩, fun j o hj => ?_⟩
  cases hj
  refine ⟨_, _, _, hs, fun i d hd => ?_⟩
  have hb := ash_bare hd
  exact ⟨by revert hb; cases d <;> first | (intro _; rfl) | (intro h; cases h), _, by rw [Nat.zero_add]; exact hd, .bare hb⟩
theorem view3 {W H : Int} {D : V} {a : Nat → Int} {h : As.H} {s ash bx : Nat} {c : Tr V} {w w2 w3 : Bool} {g g2 g3 : Option (Nat × Nat)} {L : List Nat} (hD : bare0 D = true) (hs : h.get s = some (.cells c w g)) (hc : ∀ k, k < 39 → c.get k = some (pF W H D a k)) (ha : h.get ash = some (.cells (ashC L) w2 g2)) (hx : h.get bx = some (.cells (ofL [.ptr s 0] 0) w3 g3)) :
    ViewM h [some (s, 0), some (ash, 0), some (bx, 0)] [.cells (PC W H D a) false none, ashB L, .cells (ofL [.ptr 0 0] 0) false none] := by
  refine viewM_of ⟨pc_view1 hD _ hs hc, ash_view1 _ ha, ?_, trivial⟩ (fun k k' j o o' hk hk' hmp => ?_)
  · refine ⟨⟨rfl, rfl⟩, fun j o hj => ?_⟩
    cases hj
    refine ⟨_, _, _, hx, fun i d hd => ?_⟩
    rw [get_ofL, if_pos (Nat.zero_le _), Nat.sub_zero] at hd
    match i with
    | 0 => simp at hd; subst hd; exact ⟨rfl, .ptr s (0 + 0), rfl, .ptr (i := 0) rfl⟩
    | i + 1 => simp at hd
  · obtain ⟨es, c, hg⟩ := hmp
    match k with
    | 0 => simp at hk; rw [← hk.1, hs] at hg; cases hg
    | 1 => simp at hk; rw [← hk.1, ha] at hg; cases hg
    | 2 => simp at hk; rw [← hk.1, hx] at hg; cases hg
    | k + 3 => simp at hk
theorem pc_view {W H : Int} {D : V} {a : Nat → Int} {h : As.H} {s : Nat} {c : Tr V} {w : Bool} {g : Option (Nat × Nat)} (hD : bare0 D = true) (hs : h.get s = some (.cells c w g)) (hc : ∀ k, k < 39 → c.get k = some (pF W H D a k)) : ViewM h [some (s, 0)] [.cells (PC W H D a) false none] := by
  refine viewM_of ⟨pc_view1 hD _ hs hc, trivial⟩ (fun k k' j o o' hk hk' hmp => ?_)
  obtain ⟨es, c, hg⟩ := hmp
  match k with
  | 0 => simp at hk; rw [← hk.1, hs] at hg; cases hg
  | k + 1 => simp at hk
theorem AppX.room {sz : Nat} {h : As.H} {n len cap b o : Nat} {ex : Bool} {r : List V} {c c' : Tr V} {g : Option (Nat × Nat)} {K : V → As.H → Prop} (hg : h.get b = some (.cells c true g)) (hle : len + n ≤ cap) (hp : putN r c (o + len * sz) = some c')
    (hK : K (.sl b o (len + n) cap ex) (h.put b (.cells c' true g))) : AppX sz h n r (.sl b o len cap ex) K := .all (by
  refine som_mk (a := (.sl b o (len + n) cap ex, h.put b (.cells c' true g))) ?_ hK
  unfold appendTo
  simp only [hg]
  rw [if_pos hle, hp])
def rb (L : List Nat) (k : Nat) : Int := (L.reverse.getD k 0 : Nat)
theorem rb_cons (i : Nat) (L : List Nat) (k : Nat) : rb (i :: L) k = if k = L.length then (i : Int) else rb L k := by
  unfold rb
  rw [List.reverse_cons, List.getD_eq_getElem?_getD, List.getD_eq_getElem?_getD]
  by_cases h : k < L.reverse.length
  · rw [List.getElem?_append_left h, if_neg (by rw [List.length_reverse] at h; omega)]
  · rw [List.getElem?_append_right (by omega)]
    rw [List.length_reverse] at h ⊢
    by_cases he : k = L.length
    · rw [if_pos he, he, Nat.sub_self]; rfl
    · rw [if_neg he, List.getElem?_eq_none (by simp; omega), List.getElem?_eq_none (by simp; omega)]
theorem ash_put {L : List Nat} {o i : Nat} (ho : o = i) (hi : i < 36) : putN [V.bool true] (ashC L) o = some ((ashC L).set o (.bool true)) := by rw [putN_cons, ash_get ho hi]; rfl
noncomputable def ashW (L : List Nat) : Blk := .cells (ashC L) true none
theorem ash_set {ρ : Nat → Nat} {L : List Nat} {o i : Nat} (ho : o = i) : SubQ ρ (ashW (i :: L)) (.cells ((ashC L).set o (.bool true)) true none) := by
  unfold ashW ashC
  refine arrV_set (fun _ => rfl) rfl ho fun c _ => ?_
  unfold ashV
  by_cases h : c = i
  · rw [if_pos h, h, decide_eq_true (List.mem_cons_self)]
  · rw [if_neg h]
    congr 1
    exact decide_eq_decide.2 ⟨fun hm => by rcases List.mem_cons.1 hm with e | e; exact absurd e h; exact e, fun hm => List.mem_cons_of_mem _ hm⟩
end Go.Proofs.H

namespace Go.Proofs.H
open Go.As
set_option maxRecDepth 20000
set_option linter.unusedVariables false
set_option linter.unusedSimpArgs false

set_option maxHeartbeats 8000000 in
theorem burnt_new (h : As.H) (s W H : Nat) (hW : 1 ≤ W ∧ W ≤ 6) (hH : 1 ≤ H ∧ H ≤ 6) (D : V) (hD : bare0 D = true) (a : Nat → Int) (ha : ∀ k, k < W * H → 0 ≤ a k ∧ a k ≤ 30) {c : Tr V} {w : Bool} {g : Option (Nat × Nat)} (hs : h.get s = some (.cells c w g)) (hc : ∀ k, k < 39 → c.get k = some (pF W H D a k)) (F : List Nat) (hF : brn W H (W * H) a = F) :
    CallOk Try.prog 68 [.ptr s 0] h (.sl (h.n + 0) 0 F.length F.length true) (addBs h [.cells (ofL (arrV F.length fun k => .int .i64 (rb F k)) 0) true none]) := by
  have hwh := wh_le hW hH
  have kZ := fun (h' : As.H) {w : Bool} (hs : h'.get 0 = some (.cells (PC W H D a) w none)) => size_ok h' 0 W H hW hH hs pc_0 pc_1
  have kI := fun i p2 p3 (h' : As.H) (hs : h'.get 0 = some (.cells (PC W H D a) false none)) => index_ok h' 0 W H (i % W) (i / W) p2 p3 hW hs pc_0 pc_1
  have hpos := fun i (hi : i < W * H) => pos_lt hW hH hi
  have kN := fun (L : List Nat) (h' : As.H) (hs : h'.get 0 = some (.cells (PC W H D a) false none)) (he : h'.get 2 = some (.cells (ashC L) true none)) (hx : h'.get 1 = some (.cells (ofL [.ptr 0 0] 0) true none)) => next_ok h' 0 2 1 W H hW hH (PC W H D a) a pc_0 pc_1 (fun i o => pc_a) (fun n => pc_lt hD) ha L (view3 hD hs (fun k hk => pc_at hk) he hx)
  have hplt : ∀ n, ltB n (.cells (PC W H D a) false none) := fun n => pc_lt hD
  have hbS : ∀ L, bS W H (W * H) a L = if fst4 (okI W H a L) (W * H) < W * H then fst4 (okI W H a L) (W * H) :: L else L := fun L => rfl
  have hspec := fun L => fst4_spec (okI W H a L) (W * H)
  have hgn : ∀ L i, 3 < okI W H a L i → gn L i = 0 := fun L i h => by
    unfold okI at h
    split at h
    · rename_i hc; exact hc.1
    · omega
  have hI2 : ∀ L m, bI2 W H (W * H) a (m + 1) L = bI2 W H (W * H) a m (bS W H (W * H) a L) := fun L m => rfl
  have hend := fun L m (h : fst4 (okI W H a L) (W * H) = W * H) => bI2_end (x := a) h m
  have hF0 : bI2 W H (W * H) a (W * H) [] = F := hF
  clear hF
  obtain ⟨fI, hfI⟩ : ∃ fI : List Nat → Nat, ∀ L, fI L = fst4 (okI W H a L) (W * H) := ⟨fun L => _, fun L => rfl⟩
  simp only [← hfI] at kN hbS hspec hend
  generalize bI2 W H (W * H) a = I2 at *
  generalize bS W H (W * H) a = S at *
  obtain ⟨OK, hOK⟩ : ∃ OK, okI W H a = OK := ⟨_, rfl⟩
  rw [hOK] at hgn hspec
  have hview : ViewM h [some (s, 0)] [.cells (PC W H D a) false none] := pc_view hD hs hc
  generalize PC (W : Int) H D a = B at *
  generalize hn : W * H = n at *
  refine CallOk.runN Try.func68 rfl rfl (argsC := [.ptr 0 0]) (fun N => .sl (N + 0) 0 F.length F.length true) (fun _ => [.cells (ofL (arrV F.length fun k => .int .i64 (rb F k)) 0) true none]) (Nat.le_of_ble_eq_true rfl) [some (s, 0)] (.cons (.ptr (i := 0) rfl) .nil) hview (.sl (i := 0) (Nat.le_of_ble_eq_true rfl) rfl rfl) ?hv (fun i b hi => ?_) (WpR.of_vc ?_)
  case hv => rfl
  · match i, hi with
    | 0, hi => cases hi; exact ⟨_, rfl, rfl, .bare (ofL_bare (arrV_bare fun _ => rfl))⟩
    | i + 1, hi => simp at hi
  · (conv => whnf); (repeat' (first | ((with_reducible refine ifb_mk (fun hc => ?_) (fun hc => ?_)) <;> ((try simp only [decide_eq_true_eq, decide_eq_false_iff_not, Bool.not_eq_true', Bool.not_eq_false', Int.not_lt, Int.not_le, ne_eq, Decidable.not_not, beq_iff_eq, List.cons.injEq, and_true] at hc); (first | (exfalso; omega) | exact absurd True.intro hc | conv => whnf))) | ((with_reducible refine And.intro True.intro ?_); conv => whnf) | ((with_reducible refine CallX.all ?_); refine CallW.of_ok (kZ _ rfl) ?_; conv => whnf) | ((with_reducible refine And.intro ?hh ?_); (case hh => exact condA); conv => whnf) | fail))
    refine som_mk (a := .sl 3 0 0 n true) ?hh ?_
    case hh =>
      have hn2 : n = 1 ∨ n = 2 ∨ n = 3 ∨ n = 4 ∨ n = 5 ∨ n = 6 ∨ n = 7 ∨ n = 8 ∨ n = 9 ∨ n = 10 ∨ n = 11 ∨ n = 12 ∨ n = 13 ∨ n = 14 ∨ n = 15 ∨ n = 16 ∨ n = 17 ∨ n = 18 ∨ n = 19 ∨ n = 20 ∨ n = 21 ∨ n = 22 ∨ n = 23 ∨ n = 24 ∨ n = 25 ∨ n = 26 ∨ n = 27 ∨ n = 28 ∨ n = 29 ∨ n = 30 ∨ n = 31 ∨ n = 32 ∨ n = 33 ∨ n = 34 ∨ n = 35 ∨ n = 36 := by omega
      clear hI2 hgn hspec hend hF0 kN kI hpos ha hview kZ hbS hn hwh
      rcases hn2 with rfl | rfl | rfl | rfl | rfl | rfl | rfl | rfl | rfl | rfl | rfl | rfl | rfl | rfl | rfl | rfl | rfl | rfl | rfl | rfl | rfl | rfl | rfl | rfl | rfl | rfl | rfl | rfl | rfl | rfl | rfl | rfl | rfl | rfl | rfl | rfl <;> rfl
    (conv => whnf); (repeat' (first | ((with_reducible refine ifb_mk (fun hc => ?_) (fun hc => ?_)) <;> ((try simp only [decide_eq_true_eq, decide_eq_false_iff_not, Bool.not_eq_true', Bool.not_eq_false', Int.not_lt, Int.not_le, ne_eq, Decidable.not_not, beq_iff_eq, List.cons.injEq, and_true] at hc); (first | (exfalso; omega) | exact absurd True.intro hc | conv => whnf))) | ((with_reducible refine And.intro True.intro ?_); conv => whnf) | ((with_reducible refine And.intro ?hh ?_); (case hh => exact condA); conv => whnf) | fail))
    have hMap : ∀ n L, ltB n (.cells (ashC L) true none) := fun n L => ltB_ofLb (arrV_bare fun _ => rfl)
    have hMapA : ∀ m v, ltB m (aB 36 v none) := fun m v => aB_lt
    have hMapB := hplt
    have hq0 : ∀ ρ : Nat → Nat, SubQ ρ (.cells (ashC []) true none) (.cells (ofL (rep 36 [V.bool false]) 0) true none) := fun ρ => by
      rw [arrV_rep]
      exact arrV_sub (fun _ => rfl) (.inl rfl) fun c _ => by unfold ashV; rw [decide_eq_false (List.not_mem_nil)]
    have hq1 : ∀ ρ : Nat → Nat, SubQ ρ (aB 36 (rb []) none) (.cells (ofL (rep 36 [V.int .i64 0]) 0) true none) := fun ρ => by
      rw [arrV_rep]
      exact aB_sub fun k _ => rfl
    refine WpR.loopA (ι := List Nat × Nat) [] [1, 3] [2, 3] [] 4 (fun p => [(5, .sl 3 0 p.1.length n true)]) (fun p => [(2, .cells (ashC p.1) true none), (3, aB 36 (rb p.1) none)]) (fun p => p.2) (fun p => Bn n p.1 ∧ p.1.length + p.2 = n ∧ I2 p.2 p.1 = F) ?_ (([], n)) (⟨Bn.nil n, by simp, hF0⟩) [] ⟨rfl, rfl, (by (repeat' (first | exact True.intro | rfl | exact gr_ren rfl | exact aV_ren rfl | exact aW_ren rfl rfl | refine And.intro ?_ ?_))), (by (repeat' (first | exact True.intro | rfl | exact gr_ren rfl | exact aV_ren rfl | exact aW_ren rfl rfl | refine And.intro ?_ ?_))), (by (repeat' (first | exact True.intro | rfl | exact gr_ren rfl | exact aV_ren rfl | exact aW_ren rfl rfl | refine And.intro ?_ ?_))), ⟨.inr ⟨_, rfl, hq0 _⟩, .inr ⟨_, rfl, hq1 _⟩, trivial⟩, rfl, rfl⟩
    rintro ⟨L, m⟩ ⟨j1, j2, j3⟩
    dsimp only at j1 j2 j3
    refine WpR.of_vc ?_
    have kL := kN L
    obtain ⟨s1, s2, s3⟩ := hspec L
    by_cases hil : fI L < n
    · have hS := hbS L
      rw [if_pos hil] at hS
      have hg := hgn L _ (s3 hil)
      obtain ⟨p1, p2, p3, _, _⟩ := hpos _ hil
      have kIk := kI _ p2 p3
      rw [idx_eq] at kIk
      have hf : fstV W n (fI L) = .tup [spV (fI L % W : Nat) (fI L / W : Nat), .bool true] := if_pos hil
      rw [hf] at kL
      have hn1 := (j1.cons hil hg).le
      rw [List.length_cons] at hn1
      obtain ⟨m, rfl⟩ : ∃ m', m = m' + 1 := ⟨m - 1, by omega⟩
      rw [hI2, hS] at j3
      have j1' := j1.cons hil hg
      generalize fI L = i at *
      have hp2 := ash_put (L := L) (o := 0 + (i : Int).toNat * 1) (i := i) (by omega) p1
      have hs2 := fun ρ => ash_set (ρ := ρ) (L := L) (o := 0 + (i : Int).toNat * 1) (i := i) (by omega)
      have hp3 := aB_put (n := 36) (f := rb L) (o := 0 + L.length * 1) (p := L.length) (x := i) (by omega) (by omega)
      have hs3 := fun ρ => aB_set (ρ := ρ) (n := 36) (f := rb L) (f' := rb (i :: L)) (o := 0 + L.length * 1) (p := L.length) (x := i) (gg := none) (by omega) (fun k _ => rb_cons i L k)
      (conv => whnf); (repeat' (first | ((with_reducible refine ifb_mk (fun hc => ?_) (fun hc => ?_)) <;> ((try simp only [decide_eq_true_eq, decide_eq_false_iff_not, Bool.not_eq_true', Bool.not_eq_false', Int.not_lt, Int.not_le, ne_eq, Decidable.not_not, beq_iff_eq, List.cons.injEq, and_true] at hc); (first | (exfalso; omega) | exact absurd True.intro hc | conv => whnf))) | ((with_reducible refine And.intro True.intro ?_); conv => whnf) | ((with_reducible refine CallX.all ?_); refine CallW.of_ok (kL _ rfl rfl rfl) ?_; conv => whnf) | ((with_reducible refine CallX.all ?_); refine CallW.of_ok (kIk _ rfl) ?_; conv => whnf) | ((with_reducible refine grd_putN ?_); refine som_mk (a := ?_) ?hh ?_; (case hh => exact hp2); conv => whnf) | (refine AppX.room (n := 1) (len := L.length) rfl (by omega) hp3 ?_; conv => whnf) | ((with_reducible refine And.intro ?hh ?_); (case hh => exact condA); conv => whnf) | fail))
      exact ⟨(i :: L, m), [], by dsimp only; omega, ⟨j1', by dsimp only; rw [List.length_cons]; omega, j3⟩, ⟨rfl, rfl, (by (repeat' (first | exact True.intro | rfl | exact gr_ren rfl | exact aV_ren rfl | exact aW_ren rfl rfl | refine And.intro ?_ ?_))), (by (repeat' (first | exact True.intro | rfl | exact gr_ren rfl | exact aV_ren rfl | exact aW_ren rfl rfl | refine And.intro ?_ ?_))), (by (repeat' (first | exact True.intro | rfl | exact gr_ren rfl | exact aV_ren rfl | exact aW_ren rfl rfl | refine And.intro ?_ ?_))), ⟨.inr ⟨_, rfl, hs2 _⟩, .inr ⟨_, rfl, hs3 _⟩, trivial⟩, rfl, rfl⟩⟩
    · have e : fI L = n := by omega
      have hF : F = L := by rw [← j3]; exact hend L m e
      subst hF
      have hf : fstV W n (fI F) = .tup [spV 0 0, .bool false] := if_neg hil
      rw [hf] at kL
      have hl36 : F.length ≤ 36 := by have := j1.le; omega
      obtain ⟨c2, q1, q2⟩ := putN_arr (N := F.length) (f := fun k => V.int .i64 (rb F k)) (g := fun _ => V.int .i64 0)
      have q3 : getN (ofL (arrV 36 fun k => V.int .i64 (rb F k)) 0) (min F.length F.length * 1) 0 = some (arrV F.length fun k => .int .i64 (rb F k)) := by
        rw [Nat.mul_one, Nat.min_self]
        exact getN_arr fun k hk => by rw [Nat.zero_add]; exact arrV_get rfl (by omega)
      have q4 : (arrV F.length fun k => V.int .i64 (rb F k)).all one = true := arrV_one fun _ => rfl
      rw [← arrV_rep] at q1
      have hend : ∀ ρ, SubQ ρ (.cells (ofL (arrV F.length fun k => .int .i64 (rb F k)) 0) true none) (.cells c2 true none) := fun ρ => SubQ.bare (fun k v hk => ⟨by rw [q2]; exact hk, arrV_bare (fun _ => rfl) v (by rw [get_ofL, if_pos (Nat.zero_le _)] at hk; exact List.mem_of_getElem? hk)⟩) id (.inr rfl)
      have hlt : ltB 2 (.cells (ofL (arrV F.length fun k => .int .i64 (rb F k)) 0) true none) := ltB_ofLb (arrV_bare fun _ => rfl)
      (conv => whnf); (repeat' (first | ((with_reducible refine ifb_mk (fun hc => ?_) (fun hc => ?_)) <;> ((try simp only [decide_eq_true_eq, decide_eq_false_iff_not, Bool.not_eq_true', Bool.not_eq_false', Int.not_lt, Int.not_le, ne_eq, Decidable.not_not, beq_iff_eq, List.cons.injEq, and_true] at hc); (first | (exfalso; omega) | exact absurd True.intro hc | conv => whnf))) | ((with_reducible refine And.intro True.intro ?_); conv => whnf) | ((with_reducible refine CallX.all ?_); refine CallW.of_ok (kL _ rfl rfl rfl) ?_; conv => whnf) | ((with_reducible refine grd_getN ?_); refine som_mk (a := ?_) ?hh ?_; (case hh => exact q3); conv => whnf) | ((with_reducible refine grd_putN ?_); refine som_mk (a := ?_) ?hh ?_; (case hh => exact q1); conv => whnf) | ((with_reducible refine grd_and ?_); refine And.intro (q4) ?_; conv => whnf) | ((with_reducible refine And.intro ?hh ?_); (case hh => exact condA); conv => whnf) | fail))
      exact ⟨[5], rfl, rfl, rfl, ⟨⟨_, rfl, rfl, hend _⟩, hlt, rfl, trivial⟩, trivs⟩
theorem burnt_ok (h : As.H) (s W H : Nat) (hW : 1 ≤ W ∧ W ≤ 6) (hH : 1 ≤ H ∧ H ≤ 6) (D : V) (hD : bare0 D = true) (a : Nat → Int) (ha : ∀ k, k < W * H → 0 ≤ a k ∧ a k ≤ 30) {c : Tr V} {w : Bool} {g : Option (Nat × Nat)} (hs : h.get s = some (.cells c w g)) (hc : ∀ k, k < 39 → c.get k = some (pF W H D a k)) :
    CallOk Try.prog 68 [.ptr s 0] h (.rsl true 1 (brn W H (W * H) a).length (burV (brn W H (W * H) a))) h :=
  CallOk.freeze (burnt_new h s W H hW hH D hD a ha hs hc _ rfl) (arrFz (fun _ => rfl) rfl fun _ _ => rfl) (fun b hb => by rw [List.mem_singleton.1 hb]; rfl)
end Go.Proofs.H

namespace Go.Proofs.H
open Go.As
set_option maxRecDepth 20000
set_option linter.unusedVariables false
set_option linter.unusedSimpArgs false

/-! ### Burn and Back -/

theorem fst4_cong {a b : Nat → Int} : ∀ n, (∀ j, j < n → a j = b j) → fst4 a n = fst4 b n
  | 0, _ => rfl
  | n + 1, h => by
    unfold fst4
    rw [fst4_cong n (fun j hj => h j (by omega)), h n (Nat.lt_succ_self n)]
theorem bI2_cong {W H n : Nat} {x y : Nat → Int} (h : ∀ j, j < n → x j = y j) : ∀ k L, bI2 W H n x k L = bI2 W H n y k L
  | 0, L => rfl
  | k + 1, L => by
    have e : fst4 (okI W H x L) n = fst4 (okI W H y L) n := fst4_cong n fun j hj => by unfold okI; rw [h j hj]
    have e2 : bS W H n x L = bS W H n y L := by unfold bS; rw [e]
    show bI2 W H n x k (bS W H n x L) = bI2 W H n y k (bS W H n y L)
    rw [e2]
    exact bI2_cong h k _
theorem brn_cong {W H n : Nat} {x y : Nat → Int} (h : ∀ j, j < n → x j = y j) : brn W H n x = brn W H n y := bI2_cong h n []
theorem bc_pF {W H : Int} {D : V} {a u : Nat → Int} {mb : Nat} (k : Nat) (hk : k < 39) : (BC W H D a u mb).get k = some (pF W H D a k) := by
  rw [bc_at (by omega)]
  unfold cellF pF
  by_cases h : k < 3
  · rw [if_pos h, if_pos h]
  · rw [if_neg h, if_neg h, if_pos hk]
theorem lay_len {W H : Nat} {a : Nat → Int} {E : List En} (m : MapOk W (W * H) a E) (hw : 1 ≤ W * H ∧ W * H ≤ 36) : E.length ≤ 1000 := by
  have hsub : ∀ q ∈ E.map (·.1), q ∈ (List.range (W * H)).map (pk W) := fun q hq => by
    obtain ⟨e, he, rfl⟩ := List.mem_map.1 hq
    obtain ⟨i, hi, h2⟩ := m.all e he
    rw [h2]
    exact List.mem_map.2 ⟨i, List.mem_range.2 hi, rfl⟩
  have h1 := m.nd.length_le_of_subset hsub
  simp at h1
  omega
section
variable {W H n : Nat} {x : Nat → Int}
set_option maxHeartbeats 8000000 in
theorem burn_ok (p : Pv W H n x) (hf : ∀ i, i < n → x i ≤ 3) (ex : Bool) (h : As.H) : CallOk Try.prog 31 [plV W H ex n x] h (.tup [.rsl true 1 (brn W H n x).length (burV (brn W H n x)), .int .i64 0]) h := by
  have hwh := wh_le p.hw p.hh
  have hn := p.hn
  have hd0 : ∀ i, i < W * H → 0 ≤ layA z0 x (W * H) i ∧ layA z0 x (W * H) i ≤ 30 := fun i hi => by rw [lay_at hi]; exact p.hd i (by omega)
  have m := lay_map (W := W) (n := W * H) x
  have hE : (layE W z0 x [] 0 (W * H)).1 = [] := m.flat fun i hi => by rw [lay_at hi]; exact hf i (by omega)
  have kB : ∀ (h' : As.H) (s mb : Nat), s = h'.n + 0 → mb = h'.n + 1 → _ := fun h' s mb e1 e2 => by
    have := blockFor_new h' W H p.hw p.hh ex n x hn p.hd
    rw [← e1, ← e2] at this
    exact this
  have kF := fun (h' : As.H) (cs : Tr V) hs hcs he => isFlat_ok h' 1 2 W H (.rsl ex 1 n (iG x)) rfl (layA z0 x (W * H)) z0 (layE W z0 x [] 0 (W * H)).1 (layE W z0 x [] 0 (W * H)).2 (lay_len m hwh) (cs := cs) hs hcs he
  have kU := fun (h' : As.H) (c : Tr V) hs hc => burnt_ok h' 1 W H p.hw p.hh (.rsl ex 1 n (iG x)) rfl (layA z0 x (W * H)) hd0 (c := c) (w := true) (g := none) hs hc
  rw [brn_cong (y := x) (fun j hj => lay_at hj), show brn W H (W * H) x = brn W H n x by rw [hn]] at kU
  rw [hE] at kF
  rw [hE] at kB
  generalize (layE W z0 x [] 0 (W * H)).2 = c0 at *
  generalize layA z0 x (W * H) = a0 at *
  generalize brn W H n x = L at *
  obtain ⟨B1, hB1⟩ : ∃ B1, BC (W : Int) H (.rsl ex 1 n (iG x)) a0 z0 2 = B1 := ⟨_, rfl⟩
  have kB := fun (h' : As.H) (e : 1 = h'.n + 0) (e2 : 2 = h'.n + 1) => kB h' 1 2 e e2
  unfold BB at kB
  rw [hB1] at kB
  have kF := fun (h' : As.H) (hs : h'.get 1 = some (.cells B1 true none)) he => kF h' B1 hs (fun j => by rw [hB1]) he
  have kU := fun (h' : As.H) (hs : h'.get 1 = some (.cells B1 true none)) => kU h' B1 hs (fun k hk => by rw [← hB1]; exact bc_pF k hk)
  refine CallOk.run0 Try.func31 rfl rfl rfl rfl rfl (WpR.of_vc ?_)
  (conv => whnf); (repeat' (first | ((with_reducible refine ifb_mk (fun hc => ?_) (fun hc => ?_)) <;> ((try simp only [decide_eq_true_eq, decide_eq_false_iff_not, Bool.not_eq_true', Bool.not_eq_false', Int.not_lt, Int.not_le, ne_eq, Decidable.not_not, beq_iff_eq, List.cons.injEq, and_true] at hc); (first | (exfalso; omega) | exact absurd True.intro hc | conv => whnf))) | ((with_reducible refine And.intro True.intro ?_); conv => whnf) | ((with_reducible refine CallX.all ?_); refine CallW.of_ok (kB _ (by rfl) (by rfl)) ?_; conv => whnf) | ((with_reducible refine CallX.all ?_); refine CallW.of_ok (kF _ rfl rfl) ?_; conv => whnf) | ((with_reducible refine CallX.all ?_); refine CallW.of_ok (kU _ rfl) ?_; conv => whnf) | ((with_reducible refine And.intro ?hh ?_); (case hh => exact condA); conv => whnf) | fail))
  all_goals first | (refine ⟨[], ?_, rfl, rfl, trivial, trivs⟩; simp only [renV, renL]; (first | done | rfl | (simp; done) | (simp; omega) | grind)) | (exfalso; omega)
set_option maxHeartbeats 4000000 in
theorem back_ok (p : Pv W H n x) (hf : ∀ i, i < n → x i ≤ 3) (ex : Bool) (h : As.H) : CallOk Try.prog 33 [plV W H ex n x] h (.tup [.bool (decide ((brn W H n x).length = n)), .int .i64 0]) h := by
  have hle := p.le
  have k1 := fun h' => burn_ok p hf ex h'
  have hb := (brn_le W H n x).le
  generalize brn W H n x = L at *
  refine CallOk.run0 Try.func33 rfl rfl rfl rfl rfl (WpR.of_vc ?_)
  (conv => whnf); (repeat' (first | ((with_reducible refine ifb_mk (fun hc => ?_) (fun hc => ?_)) <;> ((try simp only [decide_eq_true_eq, decide_eq_false_iff_not, Bool.not_eq_true', Bool.not_eq_false', Int.not_lt, Int.not_le, ne_eq, Decidable.not_not, beq_iff_eq, List.cons.injEq, and_true] at hc); (first | (exfalso; omega) | exact absurd True.intro hc | conv => whnf))) | ((with_reducible refine And.intro True.intro ?_); conv => whnf) | ((with_reducible refine CallX.all ?_); refine CallW.of_ok (k1 _) ?_; conv => whnf) | ((with_reducible refine And.intro ?hh ?_); (case hh => exact condA); conv => whnf) | fail))
  all_goals first | (refine ⟨[], ?_, rfl, rfl, trivial, trivs⟩; simp only [renV, renL]; (first | done | rfl | (simp; done) | (simp; omega) | grind)) | (exfalso; omega)
end
end Go.Proofs.H

