/- What the functions answer that the laws call, one after another (Bu). -/
import Derived.Test.YtgopneibaajgbaaAs6
import Derived.Test.YtgopneibaajgbaaL3
import Derived.Test.YtgopneibaajgbaaR2
import Derived.Test.YtgopneibaajgbaaG0

set_option linter.unusedVariables false
namespace Go.Proofs.H
open Go.As
set_option maxRecDepth 20000
set_option linter.unusedVariables false
set_option linter.unusedSimpArgs false

/-! ### What burns -/

def gn (L : List Nat) (k : Nat) : Int := if k ∈ L then 1 else 0
def lp (f : Nat → Int) (l : List Nat) : Nat → Int
  | 0 => 0
  | k + 1 => lp f l k + f (l.getD k 0)
theorem lp_rng {L l : List Nat} : ∀ k, 0 ≤ lp (fun y => 1 - gn L y) l k ∧ lp (fun y => 1 - gn L y) l k ≤ k
  | 0 => ⟨Int.le_refl _, Int.le_refl _⟩
  | k + 1 => by
    have h := lp_rng (L := L) (l := l) k
    have e : lp (fun y => 1 - gn L y) l (k + 1) = lp (fun y => 1 - gn L y) l k + (1 - gn L (l.getD k 0)) := rfl
    have hg : gn L (l.getD k 0) = 0 ∨ gn L (l.getD k 0) = 1 := by unfold gn; split; exact .inr rfl; exact .inl rfl
    omega
/-- How many neighbours have not burnt. -/
def lf (W H : Nat) (L : List Nat) (i : Nat) : Int := lp (fun y => 1 - gn L y) (bsL W H i) (bsL W H i).length
/-- Whether a place burns next. -/
def okI (W H : Nat) (x : Nat → Int) (L : List Nat) (i : Nat) : Int := if gn L i = 0 ∧ lf W H L i ≤ x i then 4 else 0
def bS (W H n : Nat) (x : Nat → Int) (L : List Nat) : List Nat := if fst4 (okI W H x L) n < n then fst4 (okI W H x L) n :: L else L
def bI2 (W H n : Nat) (x : Nat → Int) : Nat → List Nat → List Nat
  | 0, L => L
  | k + 1, L => bI2 W H n x k (bS W H n x L)
/-- The places that burn, the last one first. -/
def brn (W H n : Nat) (x : Nat → Int) : List Nat := bI2 W H n x n []
structure Bn (n : Nat) (L : List Nat) : Prop where
  len : sm n (gn L) = L.length
theorem gn_01 (L : List Nat) (k : Nat) : 0 ≤ gn L k ∧ gn L k ≤ 1 := by unfold gn; split <;> omega
theorem gn_cons {L : List Nat} {i : Nat} (h : gn L i = 0) (k : Nat) : gn (i :: L) k = if k = i then 1 else gn L k := by
  unfold gn
  by_cases hk : k = i
  · subst hk; simp
  · simp [hk]
theorem Bn.nil (n : Nat) : Bn n [] := ⟨by
  have e : gn [] = fun _ => 0 := funext fun k => by simp [gn]
  rw [e, sm_0]; rfl⟩
theorem Bn.cons {n : Nat} {L : List Nat} (b : Bn n L) {i : Nat} (hi : i < n) (h : gn L i = 0) : Bn n (i :: L) := ⟨by
  have e : gn (i :: L) = fun k => gn L k + (if k = i then 1 else 0) := funext fun k => by
    rw [gn_cons h]
    by_cases hk : k = i
    · rw [if_pos hk, if_pos hk, hk, h]; rfl
    · rw [if_neg hk, if_neg hk]; omega
  rw [e, sm_add, b.len, sm_one (fun _ => 1) hi, List.length_cons]
  omega⟩
theorem Bn.le {n : Nat} {L : List Nat} (b : Bn n L) : L.length ≤ n := by
  have h1 := sm_le (n := n) (f := gn L) (g := fun _ => 1) fun k _ => (gn_01 L k).2
  rw [b.len, sm_c] at h1
  omega
theorem bI2_end {W H n : Nat} {x : Nat → Int} {L : List Nat} (h : fst4 (okI W H x L) n = n) : ∀ k, bI2 W H n x k L = L
  | 0 => rfl
  | k + 1 => by
    show bI2 W H n x k (bS W H n x L) = L
    have e : bS W H n x L = L := by unfold bS; rw [if_neg (by omega)]
    rw [e]
    exact bI2_end h k
def burV (L : List Nat) : Nat → List V := iG fun j => (L.reverse.getD j 0 : Nat)
theorem burV_of (L : List Nat) : ∀ j x, ((L.map fun y : Nat => (y : Int)).reverse)[j]? = some x → burV L j = eI x := fun j x h => by
  rw [← List.map_reverse, List.getElem?_map] at h
  unfold burV iG eI
  cases hq : L.reverse[j]? with
  | none => rw [hq] at h; cases h
  | some y =>
    rw [hq] at h
    have h' : (y : Int) = x := Option.some.inj h
    show [V.int .i64 ((L.reverse.getD j 0 : Nat) : Int)] = _
    rw [List.getD_eq_getElem?_getD, hq, ← h']
    rfl
set_option maxHeartbeats 8000000 in
theorem burnOf_new (h : As.H) (W H : Nat) (hW : 1 ≤ W ∧ W ≤ 6) (hH : 1 ≤ H ∧ H ≤ 6) (n : Nat) (hn : n = W * H) (ex : Bool) (x : Nat → Int) (r : List Int) (hr : r = (brn W H n x).map fun y : Nat => (y : Int)) :
    CallOk Try.prog 69 [.int .i64 W, .int .i64 H, .rsl ex 1 n (iG x)] h (grV (h.n + 0) r.length) (addBs h (gNew 1 eI r)) := by
  have hwh := wh_le hW hH
  have kB := fun i (hi : i < n) h' => beside_ok h' W H i hW hH (by omega)
  have hmem : ∀ i, i < n → ∀ j, j < (bsL W H i).length → (bsL W H i).getD j 0 < n := fun i hi j hj => by
    rw [List.getD_eq_getElem?_getD, List.getElem?_eq_getElem hj, hn]
    exact bsL_lt hW hH (by omega) (List.getElem_mem hj)
  have hlen := bsL_len W H
  have hbg : ∀ (v : Nat → Int) (i o : Nat), o = i → i < n → (ofL (arrV n fun k => V.int .i64 (v k)) 0).get o = some (.int .i64 (v i)) := fun v i o ho hi => aB_get ho hi
  have hbp : ∀ (v : Nat → Int) (i o : Nat) (y : Int), o = i → i < n → putN [V.int .i64 y] (ofL (arrV n fun k => .int .i64 (v k)) 0) o = some ((ofL (arrV n fun k => .int .i64 (v k)) 0).set o (.int .i64 y)) := fun v i o y ho hi => aB_put ho hi
  have hbw : ∀ (ρ : Nat → Nat) (L : List Nat) (i o : Nat), gn L i = 0 → o = i → SubQ ρ (aB n (gn (i :: L)) none) (.cells ((ofL (arrV n fun k => V.int .i64 (gn L k)) 0).set o (.int .i64 1)) true none) := fun ρ L i o h0 ho => aB_set ho fun k _ => gn_cons h0 k
  have hq2 : ∀ ρ : Nat → Nat, SubQ ρ (aB n (gn []) none) (.cells (ofL (rep n [V.int .i64 0]) 0) true none) := fun ρ => by rw [arrV_rep]; exact aB_sub fun k _ => by simp [gn]
  have hMap : ∀ v, ltB 2 (aB n v none) := fun v => aB_lt
  have hMapB : ∀ v, ltB 1000 (aB n v none) := fun v => aB_lt
  have hMapC : ∀ v, avB [1] (aB n v none) := fun v => avB_ofLb (arrV_bare fun _ => rfl)
  have hq3 : ltB 2 (.cells (ofL (rep n [V.int .i64 0]) 0) true none) := by rw [arrV_rep]; exact aB_lt
  have hq4 : avB [1] (.cells (ofL (rep n [V.int .i64 0]) 0) true none) := by rw [arrV_rep]; exact avB_ofLb (arrV_bare fun _ => rfl)
  have hF : bI2 W H n x n [] = brn W H n x := rfl
  generalize brn W H n x = F at *
  refine CallOk.runN Try.func69 rfl rfl (argsC := [.int .i64 W, .int .i64 H, .rsl ex 1 n (iG x)]) (fun N => grV (N + 0) r.length) (fun _ => gNew 1 eI r) (Nat.le_of_ble_eq_true rfl) [] (CaL.lt0 rfl) (viewM0 h) (grSh _ _ _ 1 0 _ eI r (by simp)) rfl (fun i b hi => ⟨b, hi, grBs eI_bare hi⟩) (WpR.of_vc ?_)
  (conv => whnf); (repeat' (first | ((with_reducible refine ifb_mk (fun hc => ?_) (fun hc => ?_)) <;> ((try simp only [decide_eq_true_eq, decide_eq_false_iff_not, Bool.not_eq_true', Bool.not_eq_false', Int.not_lt, Int.not_le, ne_eq, Decidable.not_not, beq_iff_eq, List.cons.injEq, and_true] at hc); (first | (exfalso; omega) | exact absurd True.intro hc | conv => whnf))) | ((with_reducible refine And.intro True.intro ?_); conv => whnf) | ((with_reducible refine And.intro ?hh ?_); (case hh => exact condA); conv => whnf) | fail))
  refine WpR.loopA (ι := List Nat × (Nat × Nat)) [1] [0, 1, 2, 7] [0, 1] [] 2 (fun p => [(8, grV 1 (p.1.map fun y : Nat => (y : Int)).length), (9, .int .i64 p.2.2)]) (fun p => [(0, aB n (gn p.1) none), (1, grB 1 (gR eI (p.1.map fun y : Nat => (y : Int))) (p.1.map fun y : Nat => (y : Int)).length)]) (fun p => p.2.1 * 100 + (n - p.2.2)) (fun p => p.2.2 ≤ n ∧ (∀ j, j < p.2.2 → okI W H x p.1 j ≤ 3) ∧ Bn n p.1 ∧ p.1.length + p.2.1 = n ∧ bI2 W H n x p.2.1 p.1 = F) ?_ (([], (n, 0))) (⟨Nat.zero_le _, fun j hj => absurd hj (Nat.not_lt_zero j), Bn.nil n, by simp, hF⟩) [] ⟨rfl, rfl, (by (repeat' (first | exact True.intro | rfl | exact gr_ren rfl | exact aV_ren rfl | exact aW_ren rfl rfl | refine And.intro ?_ ?_))), (by (repeat' (first | exact True.intro | rfl | exact gr_ren rfl | exact aV_ren rfl | exact aW_ren rfl rfl | refine And.intro ?_ ?_))), (by (repeat' (first | exact True.intro | rfl | exact gr_ren rfl | exact aV_ren rfl | exact aW_ren rfl rfl | refine And.intro ?_ ?_))), ⟨.inr ⟨_, rfl, hq2 _⟩, .inl rfl, trivial⟩, rfl, rfl⟩ (htv := fun p _ => ⟨grV_lt rfl _, rfl, trivial⟩)
  rintro ⟨L, m, i⟩ ⟨j1, j2, j3, j4, j5⟩
  dsimp only at j1 j2 j3 j4 j5
  refine WpR.of_vc ?_
  by_cases hil : i < n
  · have hgv := hbg (gn L) i (0 + (i : Int).toNat * 1) (by omega) hil
    have g01 := gn_01 L i
    have hpast : ∀ L2 : List Nat, L2 = L → okI W H x L2 i ≤ 3 → ∀ j, j < i + 1 → okI W H x L2 j ≤ 3 := fun L2 e hk j hj => by
      subst e
      by_cases he : j = i
      · subst he; exact hk
      · exact j2 j (by omega)
    by_cases hg : gn L i = 0
    · have kB2 := kB i hil
      have hm2 := hmem i hil
      have hl4 := hlen i
      have hlf : lf W H L i = lp (fun y => 1 - gn L y) (bsL W H i) (bsL W H i).length := rfl
      have hok : okI W H x L i = if gn L i = 0 ∧ lf W H L i ≤ x i then 4 else 0 := rfl
      rw [hlf] at hok
      generalize bsL W H i = l at *
      have hlr := fun k => lp_rng (L := L) (l := l) k
      have hls : ∀ k, lp (fun y => 1 - gn L y) l (k + 1) = lp (fun y => 1 - gn L y) l k + (1 - gn L (l.getD k 0)) := fun k => rfl
      have hl0 : lp (fun y => 1 - gn L y) l 0 = 0 := rfl
      generalize lp (fun y => 1 - gn L y) l = P at *
      (conv => whnf); (repeat' (first | ((with_reducible refine ifb_mk (fun hc => ?_) (fun hc => ?_)) <;> ((try simp only [decide_eq_true_eq, decide_eq_false_iff_not, Bool.not_eq_true', Bool.not_eq_false', Int.not_lt, Int.not_le, ne_eq, Decidable.not_not, beq_iff_eq, List.cons.injEq, and_true] at hc); (first | (exfalso; omega) | exact absurd True.intro hc | conv => whnf))) | ((with_reducible refine And.intro True.intro ?_); conv => whnf) | ((with_reducible refine grd_and ?_); refine And.intro (hil) ?_; conv => whnf) | (refine som_mk (hgv) ?_; conv => whnf) | ((with_reducible refine CallX.all ?_); refine CallW.of_ok (kB2 _) ?_; conv => whnf) | ((with_reducible refine And.intro ?hh ?_); (case hh => exact condA); conv => whnf) | fail))
      all_goals try (exfalso; omega)
      refine WpR.loopA (ι := Nat) [] [0, 1, 2, 7, 8, 9, 10] [] [] 2 (fun k => [(11, .int .i64 (P k)), (12, .int .i64 k)]) (fun _ => []) (fun k => l.length - k) (fun k => k ≤ l.length) ?_ (0) (Nat.zero_le _) [] ⟨rfl, rfl, (by (repeat' (first | exact True.intro | rfl | exact gr_ren rfl | exact aV_ren rfl | exact aW_ren rfl rfl | refine And.intro ?_ ?_))), ⟨by rw [hl0]; rfl, rfl, trivial⟩, (by (repeat' (first | exact True.intro | rfl | exact gr_ren rfl | exact aV_ren rfl | exact aW_ren rfl rfl | refine And.intro ?_ ?_))), trivial, rfl, rfl⟩
      intro k hk
      refine WpR.of_vc ?_
      by_cases hkl : k < l.length
      · have hx := hm2 k hkl
        have hv : iL l k = (l.getD k 0 : Nat) := rfl
        have hs := hls k
        have hrk := hlr k
        generalize l.getD k 0 = y at *
        have gy := gn_01 L y
        have g2 := hbg (gn L) y (0 + (iL l k).toNat * 1) (by omega) hx
        (conv => whnf); (repeat' (first | ((with_reducible refine ifb_mk (fun hc => ?_) (fun hc => ?_)) <;> ((try simp only [decide_eq_true_eq, decide_eq_false_iff_not, Bool.not_eq_true', Bool.not_eq_false', Int.not_lt, Int.not_le, ne_eq, Decidable.not_not, beq_iff_eq, List.cons.injEq, and_true] at hc); (first | (exfalso; omega) | exact absurd True.intro hc | conv => whnf))) | ((with_reducible refine And.intro True.intro ?_); conv => whnf) | ((with_reducible refine grd_and ?_); refine And.intro (hkl) ?_; conv => whnf) | (refine som_mk (g2) ?_; conv => whnf) | ((with_reducible refine And.intro ?hh ?_); (case hh => exact condA); conv => whnf) | fail))
        all_goals first | (exfalso; omega) | exact ⟨k + 1, [], by omega, by omega, ⟨rfl, rfl, (by (repeat' (first | exact True.intro | rfl | exact gr_ren rfl | exact aV_ren rfl | exact aW_ren rfl rfl | refine And.intro ?_ ?_))), ⟨by rw [hs]; rfl, rfl, trivial⟩, (by (repeat' (first | exact True.intro | rfl | exact gr_ren rfl | exact aV_ren rfl | exact aW_ren rfl rfl | refine And.intro ?_ ?_))), trivial, rfl, rfl⟩⟩
      · have ek : k = l.length := by omega
        subst ek
        have hrk := hlr l.length
        by_cases hb : P l.length ≤ x i
        · have h4 : 3 < okI W H x L i := by rw [hok, if_pos ⟨hg, hb⟩]; decide
          have hf := fst4_at hil h4 fun j hj => j2 j hj
          have hbs : bS W H n x L = i :: L := by unfold bS; rw [hf, if_pos hil]
          have hn1 := (j3.cons hil hg).le
          rw [List.length_cons] at hn1
          obtain ⟨m, rfl⟩ : ∃ m', m = m' + 1 := ⟨m - 1, by omega⟩
          have hF2 : bI2 W H n x m (i :: L) = F := by rw [← hbs]; exact j5
          have hpv := hbp (gn L) i (0 + (i : Int).toNat * 1) 1 (by omega) hil
          have hgs := fun ρ => hbw ρ L i (0 + (i : Int).toNat * 1) hg (by omega)
          have hLl : (L.map fun y : Nat => (y : Int)).length ≤ n := by rw [List.length_map]; omega
          (conv => whnf); (repeat' (first | ((with_reducible refine ifb_mk (fun hc => ?_) (fun hc => ?_)) <;> ((try simp only [decide_eq_true_eq, decide_eq_false_iff_not, Bool.not_eq_true', Bool.not_eq_false', Int.not_lt, Int.not_le, ne_eq, Decidable.not_not, beq_iff_eq, List.cons.injEq, and_true] at hc); (first | (exfalso; omega) | exact absurd True.intro hc | conv => whnf))) | ((with_reducible refine And.intro True.intro ?_); conv => whnf) | ((with_reducible refine grd_and ?_); refine And.intro (hil) ?_; conv => whnf) | ((with_reducible refine grd_and ?_); refine And.intro (hkl) ?_; conv => whnf) | (refine som_mk (hgv) ?_; conv => whnf) | ((with_reducible refine grd_putN ?_); refine som_mk (a := ?_) ?hh ?_; (case hh => exact hpv); conv => whnf) | (refine AppX.gr (n := 1) (L := gR eI (L.map fun y : Nat => (y : Int))) (len := (L.map fun y : Nat => (y : Int)).length) rfl rfl (gI_len _) (gI_one _) Nat.zero_lt_one (by omega) ?_; conv => whnf) | ((with_reducible refine And.intro ?hh ?_); (case hh => exact condA); conv => whnf) | fail))
          all_goals first | (exfalso; omega) | exact ⟨(i :: L, (m, 0)), [(1, 3)], by dsimp only; omega, ⟨Nat.zero_le _, fun j hj => absurd hj (Nat.not_lt_zero j), j3.cons hil hg, by dsimp only; rw [List.length_cons]; omega, hF2⟩, Back.auto⟩
        · have hk3 : okI W H x L i ≤ 3 := by rw [hok, if_neg (fun h => hb h.2)]; decide
          (conv => whnf); (repeat' (first | ((with_reducible refine ifb_mk (fun hc => ?_) (fun hc => ?_)) <;> ((try simp only [decide_eq_true_eq, decide_eq_false_iff_not, Bool.not_eq_true', Bool.not_eq_false', Int.not_lt, Int.not_le, ne_eq, Decidable.not_not, beq_iff_eq, List.cons.injEq, and_true] at hc); (first | (exfalso; omega) | exact absurd True.intro hc | conv => whnf))) | ((with_reducible refine And.intro True.intro ?_); conv => whnf) | ((with_reducible refine grd_and ?_); refine And.intro (hil) ?_; conv => whnf) | ((with_reducible refine grd_and ?_); refine And.intro (hkl) ?_; conv => whnf) | (refine som_mk (hgv) ?_; conv => whnf) | ((with_reducible refine And.intro ?hh ?_); (case hh => exact condA); conv => whnf) | fail))
          all_goals first | (exfalso; omega) | exact ⟨(L, (m, i + 1)), [], by dsimp only; omega, ⟨hil, hpast L rfl hk3, j3, j4, j5⟩, Back.auto⟩
    · have hk3 : okI W H x L i ≤ 3 := by unfold okI; rw [if_neg (fun h => hg h.1)]; decide
      (conv => whnf); (repeat' (first | ((with_reducible refine ifb_mk (fun hc => ?_) (fun hc => ?_)) <;> ((try simp only [decide_eq_true_eq, decide_eq_false_iff_not, Bool.not_eq_true', Bool.not_eq_false', Int.not_lt, Int.not_le, ne_eq, Decidable.not_not, beq_iff_eq, List.cons.injEq, and_true] at hc); (first | (exfalso; omega) | exact absurd True.intro hc | conv => whnf))) | ((with_reducible refine And.intro True.intro ?_); conv => whnf) | ((with_reducible refine grd_and ?_); refine And.intro (hil) ?_; conv => whnf) | (refine som_mk (hgv) ?_; conv => whnf) | ((with_reducible refine And.intro ?hh ?_); (case hh => exact condA); conv => whnf) | fail))
      all_goals first | (exfalso; omega) | exact ⟨(L, (m, i + 1)), [], by dsimp only; omega, ⟨hil, hpast L rfl hk3, j3, j4, j5⟩, Back.auto⟩
  · have ei : i = n := by omega
    subst ei
    have eF : F = L := by rw [← j5]; exact bI2_end (fst4_n fun j hj => j2 j hj) m
    subst eF
    cases F with
    | nil =>
      subst hr
      (conv => whnf); (repeat' (first | ((with_reducible refine ifb_mk (fun hc => ?_) (fun hc => ?_)) <;> ((try simp only [decide_eq_true_eq, decide_eq_false_iff_not, Bool.not_eq_true', Bool.not_eq_false', Int.not_lt, Int.not_le, ne_eq, Decidable.not_not, beq_iff_eq, List.cons.injEq, and_true] at hc); (first | (exfalso; omega) | exact absurd True.intro hc | conv => whnf))) | ((with_reducible refine And.intro True.intro ?_); conv => whnf) | ((with_reducible refine grd_and ?_); refine And.intro (hil) ?_; conv => whnf) | ((with_reducible refine And.intro ?hh ?_); (case hh => exact condA); conv => whnf) | fail))
      exact ⟨[], rfl, rfl, rfl, trivial, trivs⟩
    | cons y F =>
      subst hr
      (conv => whnf); (repeat' (first | ((with_reducible refine ifb_mk (fun hc => ?_) (fun hc => ?_)) <;> ((try simp only [decide_eq_true_eq, decide_eq_false_iff_not, Bool.not_eq_true', Bool.not_eq_false', Int.not_lt, Int.not_le, ne_eq, Decidable.not_not, beq_iff_eq, List.cons.injEq, and_true] at hc); (first | (exfalso; omega) | exact absurd True.intro hc | conv => whnf))) | ((with_reducible refine And.intro True.intro ?_); conv => whnf) | ((with_reducible refine grd_and ?_); refine And.intro (hil) ?_; conv => whnf) | ((with_reducible refine And.intro ?hh ?_); (case hh => exact condA); conv => whnf) | fail))
      exact ⟨[1], rfl, rfl, rfl, ⟨⟨_, rfl, rfl, SubQ.ofL rfl (gI_bare _) (.inr rfl)⟩, ltB_ofLb (gI_bare _), rfl, trivial⟩, trivs⟩
theorem burnOf_ok (h : As.H) (W H : Nat) (hW : 1 ≤ W ∧ W ≤ 6) (hH : 1 ≤ H ∧ H ≤ 6) (n : Nat) (hn : n = W * H) (ex : Bool) (x : Nat → Int) :
    CallOk Try.prog 69 [.int .i64 W, .int .i64 H, .rsl ex 1 n (iG x)] h (.rsl false 1 (brn W H n x).length (burV (brn W H n x))) h := by
  have := gr_freeze (g := burV (brn W H n x)) eI_len eI_bare (burnOf_new h W H hW hH n hn ex x _ rfl) (burV_of _)
  rwa [List.length_map] at this
end Go.Proofs.H

namespace Go.Proofs.H
open Go.As
set_option maxRecDepth 20000
set_option linter.unusedVariables false
set_option linter.unusedSimpArgs false

/-! ### The definitions: Burn and Back -/

section
variable {W H n : Nat} {x : Nat → Int}
set_option maxHeartbeats 4000000 in
theorem burnR_ok (p : Pv W H n x) (hf : ∀ i, i < n → x i ≤ 3) (h : As.H) : CallOk Try.prog 32 [plV W H false n x] h (.tup [.rsl false 1 (brn W H n x).length (burV (brn W H n x)), .int .i64 0]) h := by
  have hle := p.le
  have k1 := fun h' => ckV p h'
  have k2 := fun h' => isFlatR_ok h' n x false (by omega)
  rw [allF_t (p := fun j => decide (x j ≤ 3)) fun j hj => decide_eq_true (hf j hj)] at k2
  have k3 := fun h' => burnOf_ok h' W H p.hw p.hh n p.hn false x
  generalize brn W H n x = L at *
  refine CallOk.run0 Try.func32 rfl rfl rfl rfl rfl (WpR.of_vc ?_)
  (conv => whnf); (repeat' (first | ((with_reducible refine ifb_mk (fun hc => ?_) (fun hc => ?_)) <;> ((try simp only [decide_eq_true_eq, decide_eq_false_iff_not, Bool.not_eq_true', Bool.not_eq_false', Int.not_lt, Int.not_le, ne_eq, Decidable.not_not, beq_iff_eq, List.cons.injEq, and_true] at hc); (first | (exfalso; omega) | exact absurd True.intro hc | conv => whnf))) | ((with_reducible refine And.intro True.intro ?_); conv => whnf) | ((with_reducible refine CallX.all ?_); refine CallW.of_ok (k1 _) ?_; conv => whnf) | ((with_reducible refine CallX.all ?_); refine CallW.of_ok (k2 _) ?_; conv => whnf) | ((with_reducible refine CallX.all ?_); refine CallW.of_ok (k3 _) ?_; conv => whnf) | ((with_reducible refine And.intro ?hh ?_); (case hh => exact condA); conv => whnf) | fail))
  all_goals first | (refine ⟨[], ?_, rfl, rfl, trivial, trivs⟩; simp only [renV, renL]; (first | done | rfl | (simp; done) | (simp; omega) | grind)) | (exfalso; omega)
set_option maxHeartbeats 4000000 in
theorem burnR_state (p : Pv W H n x) (hf : ¬ ∀ i, i < n → x i ≤ 3) (h : As.H) : CallOk Try.prog 32 [plV W H false n x] h (.tup [.nils, .int .i64 9]) h := by
  have hle := p.le
  have k1 := fun h' => ckV p h'
  have k2 := fun h' => isFlatR_ok h' n x false (by omega)
  rw [show (allF n fun j => decide (x j ≤ 3)) = false from by
    cases hb : allF n fun j => decide (x j ≤ 3) with
    | false => rfl
    | true => exact absurd (fun i hi => of_decide_eq_true (allF_iff.1 hb i hi)) hf] at k2
  refine CallOk.run0 Try.func32 rfl rfl rfl rfl rfl (WpR.of_vc ?_)
  (conv => whnf); (repeat' (first | ((with_reducible refine ifb_mk (fun hc => ?_) (fun hc => ?_)) <;> ((try simp only [decide_eq_true_eq, decide_eq_false_iff_not, Bool.not_eq_true', Bool.not_eq_false', Int.not_lt, Int.not_le, ne_eq, Decidable.not_not, beq_iff_eq, List.cons.injEq, and_true] at hc); (first | (exfalso; omega) | exact absurd True.intro hc | conv => whnf))) | ((with_reducible refine And.intro True.intro ?_); conv => whnf) | ((with_reducible refine CallX.all ?_); refine CallW.of_ok (k1 _) ?_; conv => whnf) | ((with_reducible refine CallX.all ?_); refine CallW.of_ok (k2 _) ?_; conv => whnf) | ((with_reducible refine And.intro ?hh ?_); (case hh => exact condA); conv => whnf) | fail))
  all_goals first | (refine ⟨[], ?_, rfl, rfl, trivial, trivs⟩; simp only [renV, renL]; (first | done | rfl | (simp; done) | (simp; omega) | grind)) | (exfalso; omega)
end
set_option maxHeartbeats 4000000 in
theorem burnR_err (h : As.H) (W H : Int) (ex : Bool) (k : Nat) (d : Nat → Int) (hk : k ≤ 9223372036854775807) (he : ckP W H k d ≠ 0) : CallOk Try.prog 32 [plV W H ex k d] h (.tup [.nils, .int .i64 (ckP W H k d)]) h := by
  have k1 := fun h' => checkPlateR_ok h' W H ex k d hk
  generalize ckP W H k d = e at *
  refine CallOk.run0 Try.func32 rfl rfl rfl rfl rfl (WpR.of_vc ?_)
  (conv => whnf); (repeat' (first | ((with_reducible refine ifb_mk (fun hc => ?_) (fun hc => ?_)) <;> ((try simp only [decide_eq_true_eq, decide_eq_false_iff_not, Bool.not_eq_true', Bool.not_eq_false', Int.not_lt, Int.not_le, ne_eq, Decidable.not_not, beq_iff_eq, List.cons.injEq, and_true] at hc); (first | (exfalso; omega) | exact absurd True.intro hc | conv => whnf))) | ((with_reducible refine And.intro True.intro ?_); conv => whnf) | ((with_reducible refine CallX.all ?_); refine CallW.of_ok (k1 _) ?_; conv => whnf) | ((with_reducible refine And.intro ?hh ?_); (case hh => exact condA); conv => whnf) | fail))
  all_goals first | (refine ⟨[], ?_, rfl, rfl, trivial, trivs⟩; simp only [renV, renL]; (first | done | rfl | (simp; done) | (simp; omega) | grind)) | exact absurd (by assumption) he
theorem brn_le (W H n : Nat) (x : Nat → Int) : Bn n (brn W H n x) := by
  have : ∀ k L, Bn n L → Bn n (bI2 W H n x k L) := fun k => by
    induction k with
    | zero => exact fun L h => h
    | succ k ih =>
      intro L h
      refine ih _ ?_
      unfold bS
      split
      · rename_i hlt
        obtain ⟨h1, h2, h3⟩ := fst4_spec (okI W H x L) n
        have h4 := h3 hlt
        refine h.cons hlt ?_
        have e : okI W H x L (fst4 (okI W H x L) n) = if gn L (fst4 (okI W H x L) n) = 0 ∧ lf W H L (fst4 (okI W H x L) n) ≤ x (fst4 (okI W H x L) n) then 4 else 0 := rfl
        rw [e] at h4
        split at h4
        · rename_i hc; exact hc.1
        · omega
      · exact h
  exact this n [] (Bn.nil n)
set_option maxHeartbeats 4000000 in
theorem backR_ok {W H n : Nat} {x : Nat → Int} (p : Pv W H n x) (hf : ∀ i, i < n → x i ≤ 3) (h : As.H) : CallOk Try.prog 34 [plV W H false n x] h (.tup [.bool (decide ((brn W H n x).length = n)), .int .i64 0]) h := by
  have hle := p.le
  have k1 := fun h' => burnR_ok p hf h'
  have hb := (brn_le W H n x).le
  generalize brn W H n x = L at *
  refine CallOk.run0 Try.func34 rfl rfl rfl rfl rfl (WpR.of_vc ?_)
  (conv => whnf); (repeat' (first | ((with_reducible refine ifb_mk (fun hc => ?_) (fun hc => ?_)) <;> ((try simp only [decide_eq_true_eq, decide_eq_false_iff_not, Bool.not_eq_true', Bool.not_eq_false', Int.not_lt, Int.not_le, ne_eq, Decidable.not_not, beq_iff_eq, List.cons.injEq, and_true] at hc); (first | (exfalso; omega) | exact absurd True.intro hc | conv => whnf))) | ((with_reducible refine And.intro True.intro ?_); conv => whnf) | ((with_reducible refine CallX.all ?_); refine CallW.of_ok (k1 _) ?_; conv => whnf) | ((with_reducible refine And.intro ?hh ?_); (case hh => exact condA); conv => whnf) | fail))
  all_goals first | (refine ⟨[], ?_, rfl, rfl, trivial, trivs⟩; simp only [renV, renL]; (first | done | rfl | (simp; done) | (simp; omega) | grind)) | (exfalso; omega)
set_option maxHeartbeats 4000000 in
theorem backR_no (h : As.H) (v e : V) (err : Int) (he : err ≠ 0) (hv : v = .nils) (W H : Int) (n : Nat) (x : Nat → Int) (k1 : ∀ h', CallOk Try.prog 32 [plV W H false n x] h' (.tup [.nils, .int .i64 err]) h') : CallOk Try.prog 34 [plV W H false n x] h (.tup [.bool false, .int .i64 err]) h := by
  refine CallOk.run0 Try.func34 rfl rfl rfl rfl rfl (WpR.of_vc ?_)
  (conv => whnf); (repeat' (first | ((with_reducible refine ifb_mk (fun hc => ?_) (fun hc => ?_)) <;> ((try simp only [decide_eq_true_eq, decide_eq_false_iff_not, Bool.not_eq_true', Bool.not_eq_false', Int.not_lt, Int.not_le, ne_eq, Decidable.not_not, beq_iff_eq, List.cons.injEq, and_true] at hc); (first | (exfalso; omega) | exact absurd True.intro hc | conv => whnf))) | ((with_reducible refine And.intro True.intro ?_); conv => whnf) | ((with_reducible refine CallX.all ?_); refine CallW.of_ok (k1 _) ?_; conv => whnf) | ((with_reducible refine And.intro ?hh ?_); (case hh => exact condA); conv => whnf) | fail))
  all_goals first | (refine ⟨[], ?_, rfl, rfl, trivial, trivs⟩; simp only [renV, renL]; (first | done | rfl | (simp; done) | (simp; omega) | grind)) | (exfalso; omega) | exact absurd (by assumption) he | (refine ⟨[], ?_, rfl, rfl, trivial, trivs⟩; simp only [renV, renL]; rw [decide_eq_false he])
end Go.Proofs.H
