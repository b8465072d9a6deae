/- What the functions answer that the laws call, one after another (LatX). -/
import Derived.Test.YtgcnflpgolnjeaaB0
import Derived.Test.YtgcnflpgolnjeaaB7
import Derived.Test.YtgcnflpgolnjeaaTh
import Derived.Test.YtgcnflpgolnjeaaB10
import Derived.Test.YtgcnflpgolnjeaaBst
import Derived.Test.YtgcnflpgolnjeaaMst
import Derived.Test.YtgcnflpgolnjeaaBso
import Derived.Test.YtgcnflpgolnjeaaPth
import Derived.Test.YtgcnflpgolnjeaaKnd
import Derived.Test.YtgcnflpgolnjeaaChk
import Derived.Test.YtgcnflpgolnjeaaThr
import Derived.Test.YtgcnflpgolnjeaaLst
import Derived.Test.YtgcnflpgolnjeaaExa
import Derived.Test.YtgcnflpgolnjeaaWk
import Derived.Test.YtgcnflpgolnjeaaLeaX
import Derived.Test.YtgcnflpgolnjeaaTurX
import GoSem.Step
import Derived.KernelRfl
import Derived.Laws.World
import Derived.Laws.Sem
import Derived.Laws.Cells
import Derived.Laws.IdiomCopy
import Derived.Maps.RangeRun
import Derived.Laws.NewFold
import Derived.RangeFuncLeaves
import Derived.LoopNIn
import Derived.RangeFuncRecord
import Derived.OrdersIn
import Derived.ChangeSame
import Derived.Deep.Slices
import Derived.ReadAgain
import Derived.OpenShut
import Derived.Below
import Derived.WalkKit
import Derived.ProofKit
import Derived.Carry

set_option linter.unusedVariables false
set_option linter.unusedVariables false
namespace Go.Proofs.K
open Go.As
set_option maxRecDepth 20000
set_option linter.unusedVariables false
set_option linter.unusedSimpArgs false
/-! ### A path that is given by numbers -/

def byV (p : Nat → Int) : V := .agg [.int .i8 (p 0), .int .i8 (p 1), .int .i8 (p 2), .int .i8 (p 3)]
def gvF (p : Nat → Int) (k : Nat) : Int := (IntKind.i64.wrap (p k)).tmod 21
theorem gvF_bd (p : Nat → Int) (k : Nat) : -20 ≤ gvF p k ∧ gvF p k ≤ 20 := by
  have h1 := Int.tmod_lt_of_pos (IntKind.i64.wrap (p k)) (b := 21) (by decide)
  have h2 := Int.lt_tmod_of_pos (IntKind.i64.wrap (p k)) (b := 21) (by decide)
  unfold gvF; omega
theorem given_new (h : As.H) (p : Nat → Int) (D : Nat) (hD : D ≤ 3) : CallOk Try.prog 41 [.int .i64 D, byV p] h (.sl (h.n + 0) 0 (D + 1) (D + 1) false) (addBs h [paB (D + 1) (gvF p)]) := by
  have y0 : InR (gvF p 0) := by have := gvF_bd p 0; unfold InR; omega
  have y1 : InR (gvF p 1) := by have := gvF_bd p 1; unfold InR; omega
  have y2 : InR (gvF p 2) := by have := gvF_bd p 2; unfold InR; omega
  have y3 : InR (gvF p 3) := by have := gvF_bd p 3; unfold InR; omega
  refine CallOk.runN Try.func41 rfl rfl (argsC := [.int .i64 D, byV p]) (fun N => .sl (N + 0) 0 (D + 1) (D + 1) false) (fun _ => [paB (D + 1) (gvF p)]) (Nat.le_of_ble_eq_true rfl) [] (.cons (.bare rfl) (.cons (.lt0 rfl) .nil)) (viewM0 h) (.sl (i := 0) (Nat.le_of_ble_eq_true rfl) rfl rfl) rfl (fun i b hi => ?_) (WpR.of_vc ?_)
  · match i, hi with
    | 0, hi => cases hi; exact ⟨_, rfl, rfl, .bare (ofL_bare (arrV_bare fun _ => rfl))⟩
    | i + 1, hi => simp at hi
  · have h4 : D = 0 ∨ D = 1 ∨ D = 2 ∨ D = 3 := by omega
    rcases h4 with rfl | rfl | rfl | rfl
    all_goals
      (conv => whnf); (repeat' (first | ((with_reducible refine ifb_mk (fun hc => ?_) (fun hc => ?_)) <;> ((try simp only [decide_eq_true_eq, decide_eq_false_iff_not, Bool.not_eq_true', Bool.not_eq_false', Int.not_lt, Int.not_le, ne_eq, Decidable.not_not, beq_iff_eq, List.cons.injEq, and_true] at hc); (first | (exfalso; omega) | exact absurd True.intro hc | conv => whnf))) | ((with_reducible refine And.intro True.intro ?_); conv => whnf) | ((with_reducible refine WpR.loopU 5 ?_); conv => whnf) | ((with_reducible refine grd_and ?_); refine And.intro (y0) ?_; conv => whnf) | ((with_reducible refine grd_and ?_); refine And.intro (y1) ?_; conv => whnf) | ((with_reducible refine grd_and ?_); refine And.intro (y2) ?_; conv => whnf) | ((with_reducible refine grd_and ?_); refine And.intro (y3) ?_; conv => whnf) | (refine AppX.nil (n := 1) Nat.zero_lt_one (Nat.le_of_ble_eq_true rfl) ?_; conv => whnf) | (refine AppX.own (n := 1) rfl rfl rfl Nat.zero_lt_one (Nat.le_of_ble_eq_true rfl) ?_; conv => whnf) | ((with_reducible refine And.intro ?hh ?_); (case hh => exact condA); conv => whnf) | fail))
      all_goals first | (exfalso; omega) | exact ⟨[_], rfl, rfl, rfl, ⟨⟨_, rfl, rfl, SubQ.fin (by (conv => whnf); (repeat' (first | exact True.intro | rfl | refine And.intro ?_ ?_)); done) (fun h => h) (.inl rfl)⟩, paB_lt, rfl, trivial⟩, trivs⟩
theorem given_ok (h : As.H) (p : Nat → Int) (D : Nat) (hD : D ≤ 3) : CallOk Try.prog 41 [.int .i64 D, byV p] h (.rsl false 1 (D + 1) (iG (gvF p))) h :=
  CallOk.freeze (given_new h p D hD) (pa_fz (i := 0) rfl _ rfl) (fun b hb => by rw [List.mem_singleton.1 hb]; rfl)
theorem wiR_t {A B : Int} {n : Nat} {s : Nat → Int} (h : ∀ i, i < n → A ≤ s i ∧ s i ≤ B) : wiR A B n s = true := allF_t fun i hi => decide_eq_true (h i hi)
theorem ckC_0 {m : Nat} {a : Nat → Int} {d : Int} (hm : 1 ≤ m ∧ m ≤ 4) (ha : ∀ i, i < m → -1099511627776 ≤ a i ∧ a i ≤ 1099511627776) (hd : 0 ≤ d ∧ d ≤ 60) : ckC m a d = 0 := by
  unfold ckC ckP
  simp only [hm, and_self, if_true, wiR_t ha, hd]
end Go.Proofs.K
set_option linter.unusedVariables false
namespace Go.Proofs.K
open Go.As
set_option maxRecDepth 20000
set_option linter.unusedVariables false
set_option linter.unusedSimpArgs false
theorem plc_add (u v : Nat → Int) (d : Nat) : ∀ n, plc (fun k => u k + v k) d n = plc u d n + plc v d n
  | 0 => rfl
  | n + 1 => by
    show plc (fun k => u k + v k) d n + (u n + v n) * wy d n = plc u d n + u n * wy d n + (plc v d n + v n * wy d n)
    rw [plc_add u v d n, Int.add_mul]; omega
end Go.Proofs.K
set_option linter.unusedVariables false
namespace Go.Proofs.K
open Go.As
set_option maxRecDepth 20000
set_option linter.unusedVariables false
set_option linter.unusedSimpArgs false
/-! ### Days are later -/

theorem ev_sh (r : Int) : ∀ (n : Nat) (c : Nat → Int), Po n fun x => evF c n (x + r)
  | 0, _ => Po.zero 0
  | n + 1, c => by
    have h1 := ((ev_sh r n fun k => c (k + 1)).sub (-r)).add ((Po.const (c 0)).le (m := n + 1) (by omega))
    obtain ⟨d, hd⟩ := h1
    refine ⟨d, fun x => ?_⟩
    rw [← hd]
    show c 0 + (x + r) * evF (fun k => c (k + 1)) n (x + r) = evF (fun k => c (k + 1)) n (x + r) * (x - -r) + c 0
    generalize evF (fun k => c (k + 1)) n (x + r) = E
    grind
theorem Po.sh {n : Nat} {f : Int → Int} (r : Int) (h : Po n f) : Po n fun x => f (x + r) := by
  obtain ⟨c, hc⟩ := h
  obtain ⟨d, hd⟩ := ev_sh r n c
  exact ⟨d, fun x => by rw [← hd]; exact hc _⟩
theorem lt_plc {m : Nat} (hm : m ≤ 4) (z : Nat → Int) {k d : Nat} (hk : k ≤ 60) (hd : d + k < 100) : plc (ltP m z k) d m = plc z (d + k) m := by
  have e1 : ∀ d, plc (ltP m z k) d m = plc (csP m fun i => plc z (k + i) m) d m := fun d => plc_congr m fun j hj => by
    show dif _ j 0 = cut m _ j
    unfold cut
    rw [if_pos hj]
  have hz := ((pz_po (csP m fun i => plc z (k + i) m) m).add (((pz_po z m).sh k).mul (-1))).none (fun i => (i : Int)) (fun i j hi hj => by omega) (fun i hi => by
    show pzP _ m (i : Int) + -1 * pzP z m ((i : Int) + k) = 0
    rw [← pz_at (by omega) _ hm, cs_plc _ _ hm i hi, show (i : Int) + (k : Int) = ((k + i : Nat) : Int) by omega, ← pz_at (by omega) _ hm]
    omega) d
  have hz' : pzP (csP m fun i => plc z (k + i) m) m (d : Int) + -1 * pzP z m ((d : Int) + k) = 0 := hz
  rw [← pz_at (by omega) _ hm, show (d : Int) + (k : Int) = ((d + k : Nat) : Int) by omega, ← pz_at (by omega) _ hm] at hz'
  rw [e1]
  omega
theorem lt_lt {m : Nat} (hm : m ≤ 4) (z : Nat → Int) {k h i : Nat} (hk : k ≤ 60) (hh : h ≤ k) (hi : i < m) : ltP m (ltP m z h) (k - h) i = ltP m z k i := by
  refine dif_congr i 0 fun j _ hj => ?_
  show plc (ltP m z h) (k - h + j) m = plc z (k + j) m
  rw [lt_plc hm z (by omega) (by omega), show k - h + j + h = k + j by omega]
theorem dif_bd {q : Nat → Int} {B : Int} (hB : 0 ≤ B) : ∀ k i, (∀ j, i ≤ j → j ≤ i + k → -B ≤ q j ∧ q j ≤ B) → -(B * 2 ^ k) ≤ dif q k i ∧ dif q k i ≤ B * 2 ^ k
  | 0, i, h => by
    have := h i (Nat.le_refl _) (by omega)
    show -(B * 1) ≤ q i ∧ q i ≤ B * 1
    omega
  | k + 1, i, h => by
    have h1 := dif_bd hB k i fun j a b => h j a (by omega)
    have h2 := dif_bd hB k (i + 1) fun j a b => h j (by omega) (by omega)
    have e : B * 2 ^ (k + 1) = B * 2 ^ k + B * 2 ^ k := by rw [Int.pow_succ, ← Int.mul_assoc]; omega
    rw [e]
    show _ ≤ dif q k (i + 1) - dif q k i ∧ dif q k (i + 1) - dif q k i ≤ _
    omega
theorem lt_sm {m : Nat} (hm : m ≤ 4) {z : Nat → Int} (hz : ∀ k, -20 ≤ z k ∧ z k ≤ 20) {k i : Nat} (hk : k ≤ 60) (hi : i < m) : -1000000000 ≤ ltP m z k i ∧ ltP m z k i ≤ 1000000000 := by
  have h := dif_bd (q := fun i => plc z (k + i) m) (B := 12800000) (by decide) i 0 fun j _ hj => by
    have h1 := plc_bd (p := z) (d := k + j) (n := m) (B := 20) (by omega) hm (fun k _ => hz k) m (Nat.le_refl _)
    omega
  have h2 : dif (fun i => plc z (k + i) m) i 0 = ltP m z k i := rfl
  rw [h2] at h
  have h4 : i = 0 ∨ i = 1 ∨ i = 2 ∨ i = 3 := by omega
  rcases h4 with rfl | rfl | rfl | rfl <;> omega
def lt1 (c : C4) : C4 := (c.1 + c.2.1, c.2.1 + c.2.2.1, c.2.2.1 + c.2.2.2, c.2.2.2)
def un1 (c : C4) : C4 := (c.1 - (c.2.1 - (c.2.2.1 - c.2.2.2)), c.2.1 - (c.2.2.1 - c.2.2.2), c.2.2.1 - c.2.2.2, c.2.2.2)
theorem lt_un (c : C4) : lt1 (un1 c) = c := by
  have h1 : c.1 - (c.2.1 - (c.2.2.1 - c.2.2.2)) + (c.2.1 - (c.2.2.1 - c.2.2.2)) = c.1 := by omega
  have h2 : c.2.1 - (c.2.2.1 - c.2.2.2) + (c.2.2.1 - c.2.2.2) = c.2.1 := by omega
  have h3 : c.2.2.1 - c.2.2.2 + c.2.2.2 = c.2.2.1 := by omega
  show (c.1 - (c.2.1 - (c.2.2.1 - c.2.2.2)) + (c.2.1 - (c.2.2.1 - c.2.2.2)), c.2.1 - (c.2.2.1 - c.2.2.2) + (c.2.2.1 - c.2.2.2), c.2.2.1 - c.2.2.2 + c.2.2.2, c.2.2.2) = c
  rw [h1, h2, h3]
theorem un_lt (c : C4) : un1 (lt1 c) = c := by
  have h1 : c.1 + c.2.1 - (c.2.1 + c.2.2.1 - (c.2.2.1 + c.2.2.2 - c.2.2.2)) = c.1 := by omega
  have h2 : c.2.1 + c.2.2.1 - (c.2.2.1 + c.2.2.2 - c.2.2.2) = c.2.1 := by omega
  have h3 : c.2.2.1 + c.2.2.2 - c.2.2.2 = c.2.2.1 := by omega
  show (c.1 + c.2.1 - (c.2.1 + c.2.2.1 - (c.2.2.1 + c.2.2.2 - c.2.2.2)), c.2.1 + c.2.2.1 - (c.2.2.1 + c.2.2.2 - c.2.2.2), c.2.2.1 + c.2.2.2 - c.2.2.2, c.2.2.2) = c
  rw [h1, h2, h3]
theorem lt1_at (c : C4) {k : Nat} (h : k < 4) : f4 (lt1 c) k = f4 c k + dfc (f4 c) k := by
  match k, h with
  | 0, _ => rfl
  | 1, _ => rfl
  | 2, _ => rfl
  | 3, _ => show c.2.2.2 = c.2.2.2 + 0; omega
theorem lt1_plc (c : C4) {d : Nat} (hd : d < 100) : plc (f4 (lt1 c)) d 4 = plc (f4 c) (d + 1) 4 := by
  have h := plc_step (f4 c) hd
  rw [plc_congr 4 (fun k hk => lt1_at c hk), plc_add]
  omega
theorem lt1_z {D : Nat} {c : C4} (h : ∀ k, D < k → k < 4 → f4 c k = 0) : ∀ k, D < k → k < 4 → f4 (lt1 c) k = 0 := fun k h1 h2 => by
  have e3 : D < 3 → c.2.2.2 = 0 := fun hh => h 3 hh (by omega)
  have e2 : D < 2 → c.2.2.1 = 0 := fun hh => h 2 hh (by omega)
  have e1 : D < 1 → c.2.1 = 0 := fun hh => h 1 hh (by omega)
  match k, h2, h1 with
  | 0, _, h1 => omega
  | 1, _, h1 => show c.2.1 + c.2.2.1 = 0; have := e1 h1; have := e2 (by omega); omega
  | 2, _, h1 => show c.2.2.1 + c.2.2.2 = 0; have := e2 h1; have := e3 (by omega); omega
  | 3, _, h1 => exact e3 h1
theorem un1_z {D : Nat} {c : C4} (h : ∀ k, D < k → k < 4 → f4 c k = 0) : ∀ k, D < k → k < 4 → f4 (un1 c) k = 0 := fun k h1 h2 => by
  have e3 : D < 3 → c.2.2.2 = 0 := fun hh => h 3 hh (by omega)
  have e2 : D < 2 → c.2.2.1 = 0 := fun hh => h 2 hh (by omega)
  have e1 : D < 1 → c.2.1 = 0 := fun hh => h 1 hh (by omega)
  match k, h2, h1 with
  | 0, _, h1 => omega
  | 1, _, h1 => show c.2.1 - (c.2.2.1 - c.2.2.2) = 0; have := e1 h1; have := e2 (by omega); have := e3 (by omega); omega
  | 2, _, h1 => show c.2.2.1 - c.2.2.2 = 0; have := e2 h1; have := e3 (by omega); omega
  | 3, _, h1 => exact e3 h1
theorem un1_ps {a b : Nat → Int} {c : C4} {i : Nat} (k : Nat) (h : 0 ≤ a i ∧ a i + k + 1 ≤ 60) : psF (f4 (un1 c)) (fun i => a i + ((k + 1 : Nat) : Int)) b i = psF (f4 c) (fun i => a i + (k : Int)) b i := by
  unfold psF
  dsimp only
  rw [show (a i + ((k + 1 : Nat) : Int)).toNat = (a i + (k : Int)).toNat + 1 by omega, ← lt1_plc _ (by omega), lt_un]
/-- The paths of a log that is later. -/
theorem lt_two {D n : Nat} {a b : Nat → Int} : ∀ k : Nat, (∀ i, i < n → 0 ≤ a i ∧ a i + k ≤ 60) → ∃ f g, TwoL D n a b (fun i => a i + (k : Int)) b f g ∧ ∀ i, i < n → ∀ c, (∀ k, D < k → k < 4 → f4 c k = 0) → psF (f4 (f c)) (fun i => a i + (k : Int)) b i = psF (f4 c) a b i
  | 0, _ => by
    have e : (fun i => a i + ((0 : Nat) : Int)) = a := funext fun i => by show a i + 0 = a i; omega
    rw [e]
    exact ⟨id, id, ⟨fun _ h => h, fun _ h => h, fun _ _ => rfl, fun _ _ => rfl, fun _ _ => rfl⟩, fun _ _ _ _ => rfl⟩
  | k + 1, ha => by
    obtain ⟨f, g, t, hp⟩ := lt_two (D := D) (n := n) (a := a) (b := b) k fun i hi => by have := ha i hi; omega
    have hq : ∀ i, i < n → ∀ c, (∀ k, D < k → k < 4 → f4 c k = 0) → psF (f4 (un1 (f c))) (fun i => a i + ((k + 1 : Nat) : Int)) b i = psF (f4 c) a b i := fun i hi c hc => by
      rw [un1_ps k (by have := ha i hi; omega), hp i hi c hc]
    refine ⟨fun c => un1 (f c), fun c => g (lt1 c), ⟨fun c hc => un1_z (t.fz c hc), fun c hc => t.gz _ (lt1_z hc), fun c hc => ?_, fun c hc => ?_, fun c hc => cnF_congr n fun i hi => hq i hi c hc⟩, hq⟩
    · show un1 (f (g (lt1 c))) = c
      rw [t.fg _ (lt1_z hc), un_lt]
    · show g (lt1 (un1 (f c))) = c
      rw [lt_un, t.gf c hc]
/-- As many sightings lie on the path that is later. -/
theorem lt_cn {d n : Nat} (hd : d ≤ 3) {a b z : Nat → Int} (hz : ∀ k, -20 ≤ z k ∧ z k ≤ 20) {k : Nat} (hk : k ≤ 60) (hv : ckL d n a b = 0) (hv' : ckL d n (fun i => a i + (k : Int)) b = 0) :
    ckQ d n a b (d + 1) (ltP (d + 1) z k) = 0 ∧ ckQ d n (fun i => a i + (k : Int)) b (d + 1) z = 0 ∧ cpN d n a b (d + 1) (ltP (d + 1) z k) = cpN d n (fun i => a i + (k : Int)) b (d + 1) z := by
  have l := (ckL_lg hv).2
  have l' := (ckL_lg hv').2
  have q1 : ckQ d n a b (d + 1) (ltP (d + 1) z k) = 0 := by
    unfold ckQ
    rw [if_pos hv, if_pos (by omega), if_pos]
    refine allF_t fun i hi => decide_eq_true ?_
    have := lt_sm (m := d + 1) (by omega) hz hk hi
    omega
  have q2 : ckQ d n (fun i => a i + (k : Int)) b (d + 1) z = 0 := by
    unfold ckQ
    rw [if_pos hv', if_pos (by omega), if_pos]
    refine allF_t fun i hi => decide_eq_true ?_
    have := hz i
    omega
  refine ⟨q1, q2, ?_⟩
  unfold cpN
  rw [if_pos q1, if_pos q2]
  congr 1
  refine cnF_congr n fun i hi => ?_
  have h1 := l.rg i hi
  have h2 : 0 ≤ a i + (k : Int) ∧ a i + (k : Int) ≤ 60 := l'.rg i hi
  unfold psF
  rw [plc_cut 4 (by omega), plc_cut 4 (by omega), lt_plc (by omega) z hk (by omega)]
  rw [show (a i + (k : Int)).toNat = (a i).toNat + k by omega]
end Go.Proofs.K
set_option linter.unusedVariables false
namespace Go.Proofs.K
open Go.As Go.ChangeShapes Go.WideShapes Go.Deep Go.ChangeAt Go.RowKit
set_option maxRecDepth 20000
set_option linter.unusedVariables false
section
variable {H : Type} {enc : TypeId × Value → H} {W : World}
theorem by4_read {v : Value} {d : DataW H} {ps : List MemPlace} {b0 : Nat} (hok : Value.okWide Try.prog W .any b0 47 v) (hd : DataW.Trod enc Try.prog W 0 (fun _ => true) true 47 v d ps) (hz : W.noneFrozen ps) :
    ∃ (p : Nat → Int), VR (mW W) (byV p) v := by
  simp only [Value.okWide, Try.underlying47] at hok
  obtain ⟨cs, rfl, hsz, ts, hts, _, hcell⟩ := hok
  have hts' : Try.prog.cellTypes Try.prog.depth 47 = some [46, 46, 46, 46] := by kernel_rfl
  rw [hts'] at hts
  cases hts
  have c25 : Try.prog.cellsOf 47 = 4 := by kernel_rfl
  rw [c25] at hsz
  have key : ∀ (i : Nat) (w : Value), Cell.okWide Try.prog W .any b0 46 w → ∃ x : Int, w = .int .i8 x := fun i w hw => by
    simp only [Cell.okWide, Try.underlying46, Cell.ok] at hw
    cases w <;> simp at hw
    rename_i k x
    exact ⟨x, by simp_all⟩
  obtain ⟨csl⟩ := cs
  match csl, hsz, hcell with
  | [a0, a1, a2, a3], _, hcell =>
  have g : ∀ (i : Nat) (w : Value), [a0, a1, a2, a3][i]? = some w → ∃ x : Int, w = .int .i8 x := fun i w hw => by
    obtain ⟨t, ht, hc⟩ := hcell i w (by simpa using hw)
    have hl : i < 4 := (List.getElem?_eq_some_iff.1 hw).1
    match i, hl with
    | 0, _ => cases ht; exact key 0 w hc
    | 1, _ => cases ht; exact key 0 w hc
    | 2, _ => cases ht; exact key 0 w hc
    | 3, _ => cases ht; exact key 0 w hc
  obtain ⟨x0, rfl⟩ := g 0 a0 rfl
  obtain ⟨x1, rfl⟩ := g 1 a1 rfl
  obtain ⟨x2, rfl⟩ := g 2 a2 rfl
  obtain ⟨x3, rfl⟩ := g 3 a3 rfl
  exact ⟨gL [x0, x1, x2, x3], Go.As.VRs.agg (.cons (.int _ _) (.cons (.int _ _) (.cons (.int _ _) (.cons (.int _ _) (.nil _)))))⟩
end
end Go.Proofs.K
set_option linter.unusedVariables false
namespace Go.Proofs.K
open Go.As
set_option maxRecDepth 20000
set_option linter.unusedVariables false
set_option linter.unusedSimpArgs false
/-! ### The law about days that are later -/

set_option maxHeartbeats 16000000 in
theorem lawLater (h : As.H) (D : Int) (n : Nat) (a b : Nat → Int) (hn : n ≤ 9223372036854775807) (x : Int) (hx : 0 ≤ x ∧ x ≤ 255) (p : Nat → Int) (w : Int) (hw : 0 ≤ w ∧ w ≤ 255) :
    CallOk Try.prog 9 [lgV D false n a b, .int .u8 x, byV p, .int .u8 w] h (.bool true) h := by
  have kWk := fun h : As.H => wwhole.everywhere rfl h
  have kR := fun h' => checkLogR_ok h' D false n a b hn
  by_cases hg : 20 < n
  · refine CallOk.run0 Try.func9 rfl rfl rfl rfl rfl (WpR.of_vc ?_)
    (conv => whnf); (repeat' (first | ((with_reducible refine ifb_mk (fun hc => ?_) (fun hc => ?_)) <;> ((try simp only [decide_eq_true_eq, decide_eq_false_iff_not, Bool.not_eq_true', Bool.not_eq_false', Int.not_lt, Int.not_le, ne_eq, Decidable.not_not, beq_iff_eq, List.cons.injEq, and_true] at hc); (first | (exfalso; omega) | exact absurd True.intro hc | conv => whnf))) | ((with_reducible refine And.intro True.intro ?_); conv => whnf) | ((with_reducible refine CallX.all ?_); refine CallW.of_ok (kWk _) ?_; conv => whnf) | ((with_reducible refine CallX.all (f := 40) ?_); refine CallW.inline Try.func40 rfl rfl (Nat.le_of_ble_eq_true rfl) (WpR.of_vc ?_); conv => whnf) | ((with_reducible refine CallX.all (f := 22) ?_); refine CallW.inline Try.func22 rfl rfl (Nat.le_of_ble_eq_true rfl) (WpR.of_vc ?_); conv => whnf) | ((with_reducible refine And.intro ?hh ?_); (case hh => exact condA); conv => whnf) | fail))
    all_goals first | (refine ⟨[], ?_, rfl, rfl, trivial, trivs⟩; simp only [renV, renL]; (first | done | rfl | (simp; done) | (simp; omega) | grind)) | (exfalso; omega)
  by_cases hv : ckL D n a b = 0
  rotate_left
  · generalize ckL D n a b = c at *
    refine CallOk.run0 Try.func9 rfl rfl rfl rfl rfl (WpR.of_vc ?_)
    (conv => whnf); (repeat' (first | ((with_reducible refine ifb_mk (fun hc => ?_) (fun hc => ?_)) <;> ((try simp only [decide_eq_true_eq, decide_eq_false_iff_not, Bool.not_eq_true', Bool.not_eq_false', Int.not_lt, Int.not_le, ne_eq, Decidable.not_not, beq_iff_eq, List.cons.injEq, and_true] at hc); (first | (exfalso; omega) | exact absurd True.intro hc | conv => whnf))) | ((with_reducible refine And.intro True.intro ?_); conv => whnf) | ((with_reducible refine CallX.all ?_); refine CallW.of_ok (kWk _) ?_; conv => whnf) | ((with_reducible refine CallX.all ?_); refine CallW.of_ok (kR _) ?_; conv => whnf) | ((with_reducible refine grd_ex ?_); refine ex_ok (kR _) ?_; conv => whnf) | ((with_reducible refine CallX.all (f := 40) ?_); refine CallW.inline Try.func40 rfl rfl (Nat.le_of_ble_eq_true rfl) (WpR.of_vc ?_); conv => whnf) | ((with_reducible refine CallX.all (f := 22) ?_); refine CallW.inline Try.func22 rfl rfl (Nat.le_of_ble_eq_true rfl) (WpR.of_vc ?_); conv => whnf) | ((with_reducible refine And.intro ?hh ?_); (case hh => exact condA); conv => whnf) | fail))
    all_goals first | (refine ⟨[], ?_, rfl, rfl, trivial, trivs⟩; simp only [renV, renL]; (first | done | rfl | (simp; done) | (simp; omega) | grind)) | (exfalso; omega)
  obtain ⟨hD, l⟩ := ckL_lg hv
  obtain ⟨d, rfl⟩ : ∃ d : Nat, D = (d : Int) := ⟨D.toNat, by omega⟩
  have hd3 : d ≤ 3 := by omega
  have hn12 := l.le
  have ha := l.rg
  have kG := fun h' => given_ok h' p d hd3
  have hz := gvF_bd p
  generalize gvF p = z at *
  obtain ⟨K, eK, hK⟩ : ∃ K : Nat, (IntKind.i64.wrap x).tmod 61 = K ∧ K ≤ 60 := by
    rw [u8w hx, Int.tmod_eq_emod_of_nonneg hx.1]
    exact ⟨(x % 61).toNat, by omega, by omega⟩
  obtain ⟨H, eH, hH⟩ : ∃ H : Nat, ((IntKind.i64.wrap x).tmod 61).tdiv 2 = H ∧ H ≤ K := by
    rw [eK, Int.tdiv_eq_ediv_of_nonneg (by omega)]
    exact ⟨K / 2, by omega, by omega⟩
  have y1 : InR ((IntKind.i64.wrap x).tmod 61) := by rw [eK]; unfold InR; omega
  have y2 : InR (((IntKind.i64.wrap x).tmod 61).tdiv 2) := by rw [eH]; unfold InR; omega
  have y3 : InR ((IntKind.i64.wrap x).tmod 61 - ((IntKind.i64.wrap x).tmod 61).tdiv 2) := by rw [eH, eK]; unfold InR; omega
  have hz' : ∀ i, -1099511627776 ≤ z i ∧ z i ≤ 1099511627776 := fun i => by have := hz i; omega
  have hq' : ∀ i, i < d + 1 → -1099511627776 ≤ ltP (d + 1) z H i ∧ ltP (d + 1) z H i ≤ 1099511627776 := fun i hi => by have := lt_sm (m := d + 1) (by omega) hz (k := H) (by omega) hi; omega
  have k1 : ∀ h' : As.H, CallOk Try.prog 19 [.rsl false 1 (d + 1) (iG z), .int .i64 ((IntKind.i64.wrap x).tmod 61)] h' (.tup [.rsl false 1 (d + 1) (iG (ltP (d + 1) z K)), .int .i64 0]) h' := fun h' => by
    have k := laterP_ok h' false (d + 1) z K (by omega)
    have c := ckC_0 (m := d + 1) (a := z) (d := K) (by omega) (fun i _ => hz' i) (by omega)
    rw [c, if_pos rfl, show (K : Int).toNat = K from rfl, ← eK] at k
    exact k
  have k2 : ∀ h' : As.H, CallOk Try.prog 19 [.rsl false 1 (d + 1) (iG z), .int .i64 (((IntKind.i64.wrap x).tmod 61).tdiv 2)] h' (.tup [.rsl false 1 (d + 1) (iG (ltP (d + 1) z H)), .int .i64 0]) h' := fun h' => by
    have k := laterP_ok h' false (d + 1) z H (by omega)
    have c := ckC_0 (m := d + 1) (a := z) (d := H) (by omega) (fun i _ => hz' i) (by omega)
    rw [c, if_pos rfl, show (H : Int).toNat = H from rfl, ← eH] at k
    exact k
  have k3 : ∀ h' : As.H, CallOk Try.prog 19 [.rsl false 1 (d + 1) (iG (ltP (d + 1) z H)), .int .i64 ((IntKind.i64.wrap x).tmod 61 - ((IntKind.i64.wrap x).tmod 61).tdiv 2)] h' (.tup [.rsl false 1 (d + 1) (iG (ltP (d + 1) (ltP (d + 1) z H) (K - H))), .int .i64 0]) h' := fun h' => by
    have k := laterP_ok h' false (d + 1) (ltP (d + 1) z H) ((K - H : Nat) : Int) (by omega)
    have c := ckC_0 (m := d + 1) (a := ltP (d + 1) z H) (d := ((K - H : Nat) : Int)) (by omega) hq' (by omega)
    rw [c, if_pos rfl, show ((K - H : Nat) : Int).toNat = K - H from rfl, show ((K - H : Nat) : Int) = (IntKind.i64.wrap x).tmod 61 - ((IntKind.i64.wrap x).tmod 61).tdiv 2 by rw [eH, eK]; omega] at k
    exact k
  have k4 : ∀ h' : As.H, CallOk Try.prog 46 [.rsl false 1 (d + 1) (iG z), .int .i64 ((IntKind.i64.wrap x).tmod 61)] h' (.rsl false 1 (d + 1) (iG (ltP (d + 1) z K))) h' := fun h' => by
    have k := laterOf_ok h' false (d + 1) (by omega) z K hK fun i _ => hz' i
    rw [← eK] at k
    exact k
  have k5 : ∀ h' : As.H, CallOk Try.prog 47 [.rsl false 1 (d + 1) (iG (ltP (d + 1) z H))] h' (.int .i64 0) h' := fun h' => by
    have k := isPath_ok h' (d + 1) (ltP (d + 1) z H) false (by omega)
    have c : ckP (d + 1) (ltP (d + 1) z H) = 0 := by
      unfold ckP
      rw [if_pos (by omega), if_pos (wiR_t hq')]
    rw [c] at k
    exact k
  have k6 : ∀ h' : As.H, CallOk Try.prog 21 [.rsl false 1 (d + 1) (iG (ltP (d + 1) z K)), .rsl false 1 (d + 1) (iG (ltP (d + 1) z K))] h' (.bool true) h' := fun h' => by
    have k := longs_ok h' false false (d + 1) (d + 1) (ltP (d + 1) z K) (ltP (d + 1) z K) (by omega) (by omega)
    rw [eqB_t rfl fun _ _ => rfl] at k
    exact k
  have k7 : ∀ h' : As.H, CallOk Try.prog 21 [.rsl false 1 (d + 1) (iG (ltP (d + 1) (ltP (d + 1) z H) (K - H))), .rsl false 1 (d + 1) (iG (ltP (d + 1) z K))] h' (.bool true) h' := fun h' => by
    have k := longs_ok h' false false (d + 1) (d + 1) (ltP (d + 1) (ltP (d + 1) z H) (K - H)) (ltP (d + 1) z K) (by omega) (by omega)
    rw [eqB_t rfl fun i hi => lt_lt (by omega) z hK hH hi] at k
    exact k
  have kcp := fun h' => checkPathP_ok h' d false false n a b hn (d + 1) (by omega) (ltP (d + 1) z K)
  have kcx := checkPathP_ok As.H.empty d false false n (fun i => a i + (K : Int)) b hn (d + 1) (by omega) z
  have hcn := lt_cn (n := n) (a := a) (b := b) hd3 hz hK hv
  have kS : ckL d n (fun i => a i + (K : Int)) b = 0 → CallOk Try.prog 48 [lgV d false n a b, lgV d false n (fun i => a i + (K : Int)) b, .int .u8 w, .bool false] As.H.empty (.bool true) As.H.empty := fun hv' => by
    have l' := (ckL_lg hv').2
    have hr : ∀ i, i < n → 0 ≤ a i ∧ a i + (K : Int) ≤ 60 := fun i hi => ⟨(l.rg i hi).1, (l'.rg i hi).2⟩
    obtain ⟨f, g, t, hp⟩ := lt_two (D := d) (n := n) (a := a) (b := b) K hr
    exact same_ok As.H.empty d hd3 false false n a b _ b hv hv' (fun D _ => by obtain ⟨f, g, t, _⟩ := lt_two (D := D) (n := n) (a := a) (b := b) K hr; exact ⟨f, g, t⟩) w hw false f g t fun i hi c hc => by rw [if_neg Bool.false_ne_true]; exact hp i hi c hc
  generalize ltP (d + 1) (ltP (d + 1) z H) (K - H) = r3 at *
  generalize ltP (d + 1) z H = r2 at *
  generalize ltP (d + 1) z K = r1 at *
  rw [hv] at kR
  clear l hv
  have hax : ∀ j, j < n → InR (a j + (IntKind.i64.wrap x).tmod 61) := fun j hj => by have := ha j hj; rw [eK]; unfold InR; omega
  have hbs : ∀ j, (fun i => a i + (K : Int)) j = a j + (IntKind.i64.wrap x).tmod 61 := fun j => by rw [eK]
  generalize (fun i => a i + (K : Int)) = a' at *
  have hs0 : lsT a' b 0 = [] := rfl
  have hss : ∀ i, lsT a' b (i + 1) = (a' i, b i) :: lsT a' b i := fun i => rfl
  have hsl := lsT_len a' b
  have hTh : ∀ (h' : As.H) bb q, q = lsT a' b n → h'.get bb = some (grB 2 (gR eS q) q.length) → Th h' (fun _ => True) (lgV d false n a' b) (.agg [.int .i64 d, grV bb q.length]) := fun h' bb q hq hb => by
    subst hq
    rw [hsl] at hb ⊢
    exact th_log trivial hb
  have kX := fun (h' : As.H) bb q hq hb => CallOk.thaw (checkLogR_ok As.H.empty d false n a' b hn) rfl h' (.cons (hTh h' bb q hq hb) .nil)
  generalize lsT a' b = SL at *
  refine CallOk.run0 Try.func9 rfl rfl rfl rfl rfl (WpR.of_vc ?_)
  (conv => whnf); (repeat' (first | ((with_reducible refine ifb_mk (fun hc => ?_) (fun hc => ?_)) <;> ((try simp only [decide_eq_true_eq, decide_eq_false_iff_not, Bool.not_eq_true', Bool.not_eq_false', Int.not_lt, Int.not_le, ne_eq, Decidable.not_not, beq_iff_eq, List.cons.injEq, and_true] at hc); (first | (exfalso; omega) | exact absurd True.intro hc | conv => whnf))) | ((with_reducible refine And.intro True.intro ?_); conv => whnf) | ((with_reducible refine grd_and ?_); refine And.intro (y1) ?_; conv => whnf) | ((with_reducible refine CallX.all ?_); refine CallW.of_ok (kR _) ?_; conv => whnf) | ((with_reducible refine grd_ex ?_); refine ex_ok (kR _) ?_; conv => whnf) | ((with_reducible refine CallX.all ?_); refine CallW.of_ok (kG _) ?_; conv => whnf) | ((with_reducible refine CallX.all (f := 40) ?_); refine CallW.inline Try.func40 rfl rfl (Nat.le_of_ble_eq_true rfl) (WpR.of_vc ?_); conv => whnf) | ((with_reducible refine CallX.all (f := 22) ?_); refine CallW.inline Try.func22 rfl rfl (Nat.le_of_ble_eq_true rfl) (WpR.of_vc ?_); conv => whnf) | ((with_reducible refine And.intro ?hh ?_); (case hh => exact condA); conv => whnf) | fail))
  have hMap : ∀ i, ltB 6 (.cells (ofL [.int .i64 d, grV 5 i] 0) true none) := fun i => ltB_ofL (by intro v hv; (repeat (rcases List.mem_cons.1 hv with rfl | hv; (first | rfl | exact grV_lt rfl i))); cases hv)
  have hMapA : ∀ i, ltB 1000 (.cells (ofL [.int .i64 d, grV 5 i] 0) true none) := fun i => ltB_ofL (by intro v hv; (repeat (rcases List.mem_cons.1 hv with rfl | hv; (first | rfl | exact grV_lt rfl i))); cases hv)
  have hMap2 : ∀ l : List (Int × Int), ltB 6 (grB 2 (gR eS l) l.length) := fun l => grB_lt (gR_bare eS_bare) _
  refine WpR.loopA (ι := Nat × List (Int × Int)) [5] [0, 1, 2, 3, 4, 6, 8, 9, 10] [4, 5] [] 6 (fun p => [(11, .int .i64 p.1)]) (fun p => [(4, .cells (ofL [.int .i64 d, grV 5 p.2.length] 0) true none), (5, grB 2 (gR eS p.2) p.2.length)]) (fun p => n - p.1) (fun p => p.1 ≤ n ∧ p.2 = SL p.1) ?_ ((0, [])) (⟨Nat.zero_le _, hs0.symm⟩) [] Back.auto
  rintro ⟨j, q⟩ ⟨j1, j2⟩
  dsimp only at j1 j2
  refine WpR.of_vc ?_
  have hql := hsl j
  rw [← j2] at hql
  by_cases hj : j < n
  · have e := hss j
    rw [← j2, hbs j] at e
    have y4 := hax j hj
    (conv => whnf); (repeat' (first | ((with_reducible refine ifb_mk (fun hc => ?_) (fun hc => ?_)) <;> ((try simp only [decide_eq_true_eq, decide_eq_false_iff_not, Bool.not_eq_true', Bool.not_eq_false', Int.not_lt, Int.not_le, ne_eq, Decidable.not_not, beq_iff_eq, List.cons.injEq, and_true] at hc); (first | (exfalso; omega) | exact absurd True.intro hc | conv => whnf))) | ((with_reducible refine And.intro True.intro ?_); conv => whnf) | ((with_reducible refine grd_and ?_); refine And.intro (y4) ?_; conv => whnf) | ((with_reducible refine grd_and ?_); refine And.intro (hj) ?_; conv => whnf) | ((with_reducible refine WpR.draw (id := 8) mixed [0, 1, 2, 3, 4, 5, 6, 7, 8, 9, 10, 11, 12, 13, 14, 15, 16, 17, 18, 19, 20] [0, 1, 0, 4, 0, 28, 60, 124, 0, 508, 0, 1024, 0, 7168, 15360, 31744, 65532, 131068, 262143, 524287, 1048575] ?hh ?_); (case hh => kernel_rfl); conv => whnf) | (refine AppX.gr (n := 1) (L := gR eS q) (len := q.length) rfl rfl (gS_len q) (gS_one q) Nat.zero_lt_one (by omega) ?_; conv => whnf) | ((with_reducible refine And.intro ?hh ?_); (case hh => exact condA); conv => whnf) | fail))
    all_goals first | (exfalso; omega) | exact ⟨(j + 1, (a j + (IntKind.i64.wrap x).tmod 61, b j) :: q), [(5, 7)], by dsimp only; omega, ⟨by dsimp only; omega, e.symm⟩, Back.auto⟩
  · have ej : j = n := by omega
    subst ej
    have kX' := fun h' bb hb => kX h' bb q j2 hb
    have kTh := fun h' bb hb => hTh h' bb q j2 hb
    clear kX hTh hMap hMapA hMap2 hss hs0 hbs hax
    have hnc : q = [] ∧ j = 0 ∨ ∃ y q', q = y :: q' ∧ j = q'.length + 1 := by
      cases q with
      | nil => exact .inl ⟨rfl, hql.symm⟩
      | cons y q' => exact .inr ⟨y, q', rfl, hql.symm⟩
    clear hsl j2
    by_cases hv' : ckL d j a' b = 0
    rotate_left
    · clear hcn kS kcx kcp
      generalize ckL d j a' b = c' at *
      rcases hnc with ⟨rfl, e0⟩ | ⟨y, q', rfl, e0⟩
      all_goals
        clear kTh
        (conv => whnf); (repeat' (first | ((with_reducible refine ifb_mk (fun hc => ?_) (fun hc => ?_)) <;> ((try simp only [decide_eq_true_eq, decide_eq_false_iff_not, Bool.not_eq_true', Bool.not_eq_false', Int.not_lt, Int.not_le, ne_eq, Decidable.not_not, beq_iff_eq, List.cons.injEq, and_true] at hc); (first | (exfalso; omega) | exact absurd True.intro hc | conv => whnf))) | ((with_reducible refine And.intro True.intro ?_); conv => whnf) | ((with_reducible refine grd_and ?_); refine And.intro (hj) ?_; conv => whnf) | ((with_reducible refine grd_and ?_); refine And.intro (y2) ?_; conv => whnf) | ((with_reducible refine grd_and ?_); refine And.intro (y3) ?_; conv => whnf) | ((with_reducible refine CallX.all ?_); refine CallW.of_ok (kG _) ?_; conv => whnf) | ((with_reducible refine CallX.all ?_); refine CallW.of_ok (k1 _) ?_; conv => whnf) | ((with_reducible refine CallX.all ?_); refine CallW.of_ok (k2 _) ?_; conv => whnf) | ((with_reducible refine CallX.all ?_); refine CallW.of_ok (k3 _) ?_; conv => whnf) | ((with_reducible refine CallX.all ?_); refine CallW.of_ok (k4 _) ?_; conv => whnf) | ((with_reducible refine grd_ex ?_); refine ex_ok (k4 _) ?_; conv => whnf) | ((with_reducible refine CallX.all ?_); refine CallW.of_ok (k5 _) ?_; conv => whnf) | ((with_reducible refine grd_ex ?_); refine ex_ok (k5 _) ?_; conv => whnf) | ((with_reducible refine CallX.all ?_); refine CallW.of_ok (k6 _) ?_; conv => whnf) | ((with_reducible refine grd_ex ?_); refine ex_ok (k6 _) ?_; conv => whnf) | ((with_reducible refine CallX.all ?_); refine CallW.of_ok (k7 _) ?_; conv => whnf) | ((with_reducible refine grd_ex ?_); refine ex_ok (k7 _) ?_; conv => whnf) | ((with_reducible refine CallX.all ?_); refine CallW.of_ok (kX' _ 5 rfl) ?_; conv => whnf) | ((with_reducible refine grd_ex ?_); refine ex_ok (kX' _ 5 rfl) ?_; conv => whnf) | ((with_reducible refine CallX.all ?_); refine CallW.of_ok (kWk _) ?_; conv => whnf) | ((with_reducible refine CallX.all (f := 40) ?_); refine CallW.inline Try.func40 rfl rfl (Nat.le_of_ble_eq_true rfl) (WpR.of_vc ?_); conv => whnf) | ((with_reducible refine CallX.all (f := 22) ?_); refine CallW.inline Try.func22 rfl rfl (Nat.le_of_ble_eq_true rfl) (WpR.of_vc ?_); conv => whnf) | ((with_reducible refine WpR.draw (id := 8) mixed [0, 1, 2, 3, 4, 5, 6, 7, 8, 9, 10, 11, 12, 13, 14, 15, 16, 17, 18, 19, 20] [0, 1, 0, 4, 0, 28, 60, 124, 0, 508, 0, 1024, 0, 7168, 15360, 31744, 65532, 131068, 262143, 524287, 1048575] ?hh ?_); (case hh => kernel_rfl); conv => whnf) | ((with_reducible refine And.intro ?hh ?_); (case hh => exact condA); conv => whnf) | fail))
        all_goals first | (refine ⟨[], ?_, rfl, rfl, trivial, trivs⟩; simp only [renV, renL]; (first | done | rfl | (simp; done) | (simp; omega) | grind)) | (exfalso; omega)
    obtain ⟨c1, c2, c3⟩ := hcn hv'
    have kS := kS hv'
    rw [hv'] at kX'
    rw [c1] at kcp
    rw [c2, ← c3] at kcx
    have kcx' := fun h' bb hb => CallOk.thaw kcx rfl h' (.cons (kTh h' bb hb) (.cons (.same rfl) .nil))
    have kS' := fun h' bb hb => CallOk.thaw kS rfl h' (.cons (.same rfl) (.cons (kTh h' bb hb) (.cons (.same rfl) (.cons (.same rfl) .nil))))
    clear hcn kS kcx c1 c2 c3 hv'
    generalize cpN d j a b (d + 1) r1 = N at *
    rcases hnc with ⟨rfl, e0⟩ | ⟨y, q', rfl, e0⟩
    all_goals
      clear kTh
      (conv => whnf); (repeat' (first | ((with_reducible refine ifb_mk (fun hc => ?_) (fun hc => ?_)) <;> ((try simp only [decide_eq_true_eq, decide_eq_false_iff_not, Bool.not_eq_true', Bool.not_eq_false', Int.not_lt, Int.not_le, ne_eq, Decidable.not_not, beq_iff_eq, List.cons.injEq, and_true] at hc); (first | (exfalso; omega) | exact absurd True.intro hc | conv => whnf))) | ((with_reducible refine And.intro True.intro ?_); conv => whnf) | ((with_reducible refine grd_and ?_); refine And.intro (hj) ?_; conv => whnf) | ((with_reducible refine grd_and ?_); refine And.intro (y2) ?_; conv => whnf) | ((with_reducible refine grd_and ?_); refine And.intro (y3) ?_; conv => whnf) | ((with_reducible refine CallX.all ?_); refine CallW.of_ok (kG _) ?_; conv => whnf) | ((with_reducible refine CallX.all ?_); refine CallW.of_ok (k1 _) ?_; conv => whnf) | ((with_reducible refine CallX.all ?_); refine CallW.of_ok (k2 _) ?_; conv => whnf) | ((with_reducible refine CallX.all ?_); refine CallW.of_ok (k3 _) ?_; conv => whnf) | ((with_reducible refine CallX.all ?_); refine CallW.of_ok (k4 _) ?_; conv => whnf) | ((with_reducible refine grd_ex ?_); refine ex_ok (k4 _) ?_; conv => whnf) | ((with_reducible refine CallX.all ?_); refine CallW.of_ok (k5 _) ?_; conv => whnf) | ((with_reducible refine grd_ex ?_); refine ex_ok (k5 _) ?_; conv => whnf) | ((with_reducible refine CallX.all ?_); refine CallW.of_ok (k6 _) ?_; conv => whnf) | ((with_reducible refine grd_ex ?_); refine ex_ok (k6 _) ?_; conv => whnf) | ((with_reducible refine CallX.all ?_); refine CallW.of_ok (k7 _) ?_; conv => whnf) | ((with_reducible refine grd_ex ?_); refine ex_ok (k7 _) ?_; conv => whnf) | ((with_reducible refine CallX.all ?_); refine CallW.of_ok (kX' _ 5 rfl) ?_; conv => whnf) | ((with_reducible refine grd_ex ?_); refine ex_ok (kX' _ 5 rfl) ?_; conv => whnf) | ((with_reducible refine CallX.all ?_); refine CallW.of_ok (kcp _) ?_; conv => whnf) | ((with_reducible refine CallX.all ?_); refine CallW.of_ok (kcx' _ 5 rfl) ?_; conv => whnf) | ((with_reducible refine CallX.all ?_); refine CallW.of_ok (kS' _ 5 rfl) ?_; conv => whnf) | ((with_reducible refine grd_ex ?_); refine ex_ok (kS' _ 5 rfl) ?_; conv => whnf) | ((with_reducible refine CallX.all ?_); refine CallW.of_ok (kWk _) ?_; conv => whnf) | ((with_reducible refine grd_ex ?_); refine ex_ok (kWk _) ?_; conv => whnf) | ((with_reducible refine CallX.all (f := 40) ?_); refine CallW.inline Try.func40 rfl rfl (Nat.le_of_ble_eq_true rfl) (WpR.of_vc ?_); conv => whnf) | ((with_reducible refine CallX.all (f := 22) ?_); refine CallW.inline Try.func22 rfl rfl (Nat.le_of_ble_eq_true rfl) (WpR.of_vc ?_); conv => whnf) | ((with_reducible refine WpR.draw (id := 8) mixed [0, 1, 2, 3, 4, 5, 6, 7, 8, 9, 10, 11, 12, 13, 14, 15, 16, 17, 18, 19, 20] [0, 1, 0, 4, 0, 28, 60, 124, 0, 508, 0, 1024, 0, 7168, 15360, 31744, 65532, 131068, 262143, 524287, 1048575] ?hh ?_); (case hh => kernel_rfl); conv => whnf) | ((with_reducible refine And.intro ?hh ?_); (case hh => exact condA); conv => whnf) | fail))
      all_goals first | (refine ⟨[], ?_, rfl, rfl, trivial, trivs⟩; simp only [renV, renL]; (first | done | rfl | (simp; done) | (simp; omega) | grind)) | (exfalso; omega)
end Go.Proofs.K
