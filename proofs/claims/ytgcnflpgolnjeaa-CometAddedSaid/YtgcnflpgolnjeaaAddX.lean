/- What the functions answer that the laws call, one after another (AddX). -/
import Derived.Test.YtgcnflpgolnjeaaB0
import Derived.Test.YtgcnflpgolnjeaaB7
import Derived.Test.YtgcnflpgolnjeaaTh
import Derived.Test.YtgcnflpgolnjeaaB10
import Derived.Test.YtgcnflpgolnjeaaBst
import Derived.Test.YtgcnflpgolnjeaaMst
import Derived.Test.YtgcnflpgolnjeaaBso
import Derived.Test.YtgcnflpgolnjeaaPth
import Derived.Test.YtgcnflpgolnjeaaKnd
import Derived.Test.YtgcnflpgolnjeaaChk
import Derived.Test.YtgcnflpgolnjeaaThr
import Derived.Test.YtgcnflpgolnjeaaLst
import Derived.Test.YtgcnflpgolnjeaaExa
import Derived.Test.YtgcnflpgolnjeaaWk
import Derived.Test.YtgcnflpgolnjeaaLeaX
import Derived.Test.YtgcnflpgolnjeaaTurX
import GoSem.Step
import Derived.KernelRfl
import Derived.Laws.World
import Derived.Laws.Sem
import Derived.Laws.Cells
import Derived.Laws.IdiomCopy
import Derived.Maps.RangeRun
import Derived.Laws.NewFold
import Derived.RangeFuncLeaves
import Derived.LoopNIn
import Derived.RangeFuncRecord
import Derived.OrdersIn
import Derived.ChangeSame
import Derived.Deep.Slices
import Derived.ReadAgain
import Derived.OpenShut
import Derived.Below
import Derived.WalkKit
import Derived.ProofKit
import Derived.Carry

set_option linter.unusedVariables false
set_option linter.unusedVariables false
namespace Go.Proofs.K
open Go.As
set_option maxRecDepth 20000
set_option linter.unusedVariables false
set_option linter.unusedSimpArgs false
/-! ### A path that is given by numbers -/

def byV (p : Nat → Int) : V := .agg [.int .i8 (p 0), .int .i8 (p 1), .int .i8 (p 2), .int .i8 (p 3)]
def gvF (p : Nat → Int) (k : Nat) : Int := (IntKind.i64.wrap (p k)).tmod 21
theorem gvF_bd (p : Nat → Int) (k : Nat) : -20 ≤ gvF p k ∧ gvF p k ≤ 20 := by
  have h1 := Int.tmod_lt_of_pos (IntKind.i64.wrap (p k)) (b := 21) (by decide)
  have h2 := Int.lt_tmod_of_pos (IntKind.i64.wrap (p k)) (b := 21) (by decide)
  unfold gvF; omega
theorem given_new (h : As.H) (p : Nat → Int) (D : Nat) (hD : D ≤ 3) : CallOk Try.prog 41 [.int .i64 D, byV p] h (.sl (h.n + 0) 0 (D + 1) (D + 1) false) (addBs h [paB (D + 1) (gvF p)]) := by
  have y0 : InR (gvF p 0) := by have := gvF_bd p 0; unfold InR; omega
  have y1 : InR (gvF p 1) := by have := gvF_bd p 1; unfold InR; omega
  have y2 : InR (gvF p 2) := by have := gvF_bd p 2; unfold InR; omega
  have y3 : InR (gvF p 3) := by have := gvF_bd p 3; unfold InR; omega
  refine CallOk.runN Try.func41 rfl rfl (argsC := [.int .i64 D, byV p]) (fun N => .sl (N + 0) 0 (D + 1) (D + 1) false) (fun _ => [paB (D + 1) (gvF p)]) (Nat.le_of_ble_eq_true rfl) [] (.cons (.bare rfl) (.cons (.lt0 rfl) .nil)) (viewM0 h) (.sl (i := 0) (Nat.le_of_ble_eq_true rfl) rfl rfl) rfl (fun i b hi => ?_) (WpR.of_vc ?_)
  · match i, hi with
    | 0, hi => cases hi; exact ⟨_, rfl, rfl, .bare (ofL_bare (arrV_bare fun _ => rfl))⟩
    | i + 1, hi => simp at hi
  · have h4 : D = 0 ∨ D = 1 ∨ D = 2 ∨ D = 3 := by omega
    rcases h4 with rfl | rfl | rfl | rfl
    all_goals
      (conv => whnf); (repeat' (first | ((with_reducible refine ifb_mk (fun hc => ?_) (fun hc => ?_)) <;> ((try simp only [decide_eq_true_eq, decide_eq_false_iff_not, Bool.not_eq_true', Bool.not_eq_false', Int.not_lt, Int.not_le, ne_eq, Decidable.not_not, beq_iff_eq, List.cons.injEq, and_true] at hc); (first | (exfalso; omega) | exact absurd True.intro hc | conv => whnf))) | ((with_reducible refine And.intro True.intro ?_); conv => whnf) | ((with_reducible refine WpR.loopU 5 ?_); conv => whnf) | ((with_reducible refine grd_and ?_); refine And.intro (y0) ?_; conv => whnf) | ((with_reducible refine grd_and ?_); refine And.intro (y1) ?_; conv => whnf) | ((with_reducible refine grd_and ?_); refine And.intro (y2) ?_; conv => whnf) | ((with_reducible refine grd_and ?_); refine And.intro (y3) ?_; conv => whnf) | (refine AppX.nil (n := 1) Nat.zero_lt_one (Nat.le_of_ble_eq_true rfl) ?_; conv => whnf) | (refine AppX.own (n := 1) rfl rfl rfl Nat.zero_lt_one (Nat.le_of_ble_eq_true rfl) ?_; conv => whnf) | ((with_reducible refine And.intro ?hh ?_); (case hh => exact condA); conv => whnf) | fail))
      all_goals first | (exfalso; omega) | exact ⟨[_], rfl, rfl, rfl, ⟨⟨_, rfl, rfl, SubQ.fin (by (conv => whnf); (repeat' (first | exact True.intro | rfl | refine And.intro ?_ ?_)); done) (fun h => h) (.inl rfl)⟩, paB_lt, rfl, trivial⟩, trivs⟩
theorem given_ok (h : As.H) (p : Nat → Int) (D : Nat) (hD : D ≤ 3) : CallOk Try.prog 41 [.int .i64 D, byV p] h (.rsl false 1 (D + 1) (iG (gvF p))) h :=
  CallOk.freeze (given_new h p D hD) (pa_fz (i := 0) rfl _ rfl) (fun b hb => by rw [List.mem_singleton.1 hb]; rfl)
end Go.Proofs.K
set_option linter.unusedVariables false
namespace Go.Proofs.K
open Go.As
set_option maxRecDepth 20000
set_option linter.unusedVariables false
set_option linter.unusedSimpArgs false
/-! ### A path is added -/

def ad4 (c : C4) (p : Nat → Int) : C4 := (c.1 + p 0, c.2.1 + p 1, c.2.2.1 + p 2, c.2.2.2 + p 3)
theorem ad4_at {c : C4} {p : Nat → Int} {k : Nat} (h : k < 4) : f4 (ad4 c p) k = f4 c k + p k := by
  match k, h with
  | 0, _ => rfl
  | 1, _ => rfl
  | 2, _ => rfl
  | 3, _ => rfl
theorem plc_add (u v : Nat → Int) (d : Nat) : ∀ n, plc (fun k => u k + v k) d n = plc u d n + plc v d n
  | 0 => rfl
  | n + 1 => by
    show plc (fun k => u k + v k) d n + (u n + v n) * wy d n = plc u d n + u n * wy d n + (plc v d n + v n * wy d n)
    rw [plc_add u v d n, Int.add_mul]; omega
theorem ad_plc (c : C4) (p : Nat → Int) (d : Nat) : plc (f4 (ad4 c p)) d 4 = plc (f4 c) d 4 + plc p d 4 := by
  rw [← plc_add]
  exact plc_congr 4 fun k hk => ad4_at hk
theorem ad_ps {a b p : Nat → Int} {c : C4} (i : Nat) : psF (f4 (ad4 c p)) a (fun i => b i + plc p (a i).toNat 4) i = psF (f4 c) a b i := by
  unfold psF
  rw [ad_plc]
  exact decide_eq_decide.2 ⟨fun h => by have h : plc (f4 c) (a i).toNat 4 + plc p (a i).toNat 4 = b i + plc p (a i).toNat 4 := h; omega, fun h => by show plc (f4 c) (a i).toNat 4 + plc p (a i).toNat 4 = b i + plc p (a i).toNat 4; omega⟩
theorem ad_two {D n : Nat} {a b p : Nat → Int} (hp : ∀ k, D < k → k < 4 → p k = 0) : TwoL D n a b a (fun i => b i + plc p (a i).toNat 4) (fun c => ad4 c p) (fun c => ad4 c fun k => - p k) where
  fz := fun c hc k h1 h2 => by rw [ad4_at h2, hc k h1 h2, hp k h1 h2]; rfl
  gz := fun c hc k h1 h2 => by rw [ad4_at h2, hc k h1 h2, hp k h1 h2]; rfl
  fg := fun c _ => by
    have h1 : c.1 + -p 0 + p 0 = c.1 := by omega
    have h2 : c.2.1 + -p 1 + p 1 = c.2.1 := by omega
    have h3 : c.2.2.1 + -p 2 + p 2 = c.2.2.1 := by omega
    have h4 : c.2.2.2 + -p 3 + p 3 = c.2.2.2 := by omega
    show (c.1 + -p 0 + p 0, c.2.1 + -p 1 + p 1, c.2.2.1 + -p 2 + p 2, c.2.2.2 + -p 3 + p 3) = c
    rw [h1, h2, h3, h4]
  gf := fun c _ => by
    have h1 : c.1 + p 0 + -p 0 = c.1 := by omega
    have h2 : c.2.1 + p 1 + -p 1 = c.2.1 := by omega
    have h3 : c.2.2.1 + p 2 + -p 2 = c.2.2.1 := by omega
    have h4 : c.2.2.2 + p 3 + -p 3 = c.2.2.2 := by omega
    show (c.1 + p 0 + -p 0, c.2.1 + p 1 + -p 1, c.2.2.1 + p 2 + -p 2, c.2.2.2 + p 3 + -p 3) = c
    rw [h1, h2, h3, h4]
  cn := fun c _ => cnF_congr n fun i _ => ad_ps i

end Go.Proofs.K
set_option linter.unusedVariables false
namespace Go.Proofs.K
open Go.As
set_option maxRecDepth 20000
set_option linter.unusedVariables false
set_option linter.unusedSimpArgs false
/-! ### A path is added: what is told -/

theorem csP_sm2 {n : Nat} {x y : Nat → Int} (h : Dy n x) (hy : Pl n y) : Sm 700000000000 4 (thP n x y) := by
  intro k hk
  have b0 := qP_bd h hy (d := 0) (by omega)
  have b1 := qP_bd h hy (d := 1) (by omega)
  have b2 := qP_bd h hy (d := 2) (by omega)
  have b3 := qP_bd h hy (d := 3) (by omega)
  unfold thP
  cases alW n x y with
  | false => show _ ≤ (0 : Int) ∧ (0 : Int) ≤ _; omega
  | true =>
    show _ ≤ csP n (qP n x y) k ∧ csP n (qP n x y) k ≤ _
    unfold csP cut
    generalize qP n x y = q at *
    by_cases e : k < n
    · rw [if_pos e]
      match k, hk with
      | 0, _ => show _ ≤ q 0 ∧ q 0 ≤ _; omega
      | 1, _ => show _ ≤ q 1 - q 0 ∧ q 1 - q 0 ≤ _; omega
      | 2, _ => show _ ≤ q 2 - q 1 - (q 1 - q 0) ∧ q 2 - q 1 - (q 1 - q 0) ≤ _; omega
      | 3, _ => show _ ≤ q 3 - q 2 - (q 2 - q 1) - (q 2 - q 1 - (q 1 - q 0)) ∧ q 3 - q 2 - (q 2 - q 1) - (q 2 - q 1 - (q 1 - q 0)) ≤ _; omega
    · rw [if_neg e]; omega
/-- The best path that is returned. -/
theorem path_facts (d : Nat) (hd : d ≤ 3) (ex : Bool) (n : Nat) (a b : Nat → Int) (hv : ckL d n a b = 0) {c : C4} {q : List C4} (hF : mpS d n a b (2 ^ n) = c :: q) :
    ∃ g : Nat → Int, Sm 700000000000 4 g ∧ (∀ k, d < k → g k = 0) ∧ cnF (psF g a b) n = mxC (cnC n a b) (prQ (c :: q)) ∧ d + 1 ≤ mxC (cnC n a b) (prQ (c :: q)) ∧ mxC (cnC n a b) (prQ (c :: q)) ≤ n ∧
      ∀ h, CallOk Try.prog 35 [lgV d ex n a b] h (.tup [.rsl false 1 (d + 1) (iG g), .int .i64 0]) h := by
  have l := (ckL_lg hv).2
  obtain ⟨hM, g, hg, hl, hl2⟩ := best_set hF
  have kP := fun h => pathP_new h d hd ex n a b hv hF g hg hl hl2
  unfold lvG at hl
  rw [Bool.and_eq_true, Bool.and_eq_true, decide_eq_true_eq, decide_eq_true_eq] at hl
  have hmem := mpS_all (D := d) (a := a) (b := b) _ g hg hl.1 hl.2.1
  have hge := mx_ge (cn := cnC n a b) (q := c :: q) (c := c4 (crG n a b g)) (by rw [← hF]; exact hmem)
  have h2 := ((mpS_iff hd l).1 hmem).2
  rw [cnC_eq] at hge h2
  exact ⟨crG n a b g, csP_sm2 (slF_dy (by omega) l.rg l.up) (slF_pl l.at'), fun k hk => th_z (by omega), by omega, by omega, hM, kP⟩
theorem add_facts (d : Nat) (hd : d ≤ 3) (n : Nat) (a b z : Nat → Int) (hz : ∀ k, -20 ≤ z k ∧ z k ≤ 20) (hv : ckL d n a b = 0) (b' : Nat → Int) (hb : b' = fun i => b i + plc z (a i).toNat (d + 1)) (hv' : ckL d n a b' = 0) :
    ∃ m e c : Int, (e = 0 ∨ e = 23 ∧ m = 0 ∧ c = 0) ∧ (n = 0 → e = 23) ∧
      (∀ h, CallOk Try.prog 29 [lgV d false n a b] h (.tup [.int .i64 m, .int .i64 e]) h) ∧ (∀ h, CallOk Try.prog 29 [lgV d false n a b'] h (.tup [.int .i64 m, .int .i64 e]) h) ∧
      (∀ h, CallOk Try.prog 31 [lgV d false n a b] h (.tup [.int .i64 c, .int .i64 e]) h) ∧ (∀ h, CallOk Try.prog 31 [lgV d false n a b'] h (.tup [.int .i64 c, .int .i64 e]) h) ∧
      (∀ x, x < n → ∃ k : Int, (∀ h, CallOk Try.prog 33 [lgV d false n a b, .int .i64 x] h (.tup [.int .i64 k, .int .i64 e]) h) ∧ (∀ h, CallOk Try.prog 33 [lgV d false n a b', .int .i64 x] h (.tup [.int .i64 k, .int .i64 e]) h)) ∧
      (e = 0 → ∃ g : Nat → Int, Sm 700000000000 4 g ∧ (∀ h, CallOk Try.prog 35 [lgV d false n a b] h (.tup [.rsl false 1 (d + 1) (iG g), .int .i64 0]) h) ∧
        ∀ s : Nat → Int, (∀ k, k < d + 1 → s k = g k + z k) → ckQ d n a b' (d + 1) s = 0 ∧ cpN d n a b' (d + 1) s = m) := by
  have hp : ∀ k, d < k → k < 4 → cut (d + 1) z k = 0 := fun k h1 h2 => by unfold cut; rw [if_neg (by omega)]
  have eb : b' = fun i => b i + plc (cut (d + 1) z) (a i).toNat 4 := by rw [hb]; funext i; rw [plc_cut 4 (by omega)]
  have l := (ckL_lg hv).2
  have t := ad_two (n := n) (a := a) (b := b) hp
  rw [← eb] at t
  obtain ⟨m, e, c, o1, o2, k1, k2, k3, k4, k5, k6⟩ := two_nums d hd false false n a b a b' hv hv' _ _ t
  refine ⟨m, e, c, o1, o2, k1, k2, k3, k4, fun x hx => k5 x x hx hx fun c _ => by rw [eb]; exact ad_ps x, fun he => ?_⟩
  obtain ⟨c0, q, hF, hm⟩ := k6 he
  obtain ⟨g, g1, g2, g3, g4, g5, kP⟩ := path_facts d hd false n a b hv hF
  refine ⟨g, g1, kP, fun s hs => ?_⟩
  have hq : ckQ d n a b' (d + 1) s = 0 := by
    unfold ckQ
    rw [if_pos hv', if_pos (by omega), if_pos]
    refine allF_t fun i hi => decide_eq_true ?_
    have h1 := g1 i (by omega)
    have h2 := hz i
    rw [hs i hi]; omega
  refine ⟨hq, ?_⟩
  unfold cpN
  rw [if_pos hq, hm]
  congr 1
  rw [← g3]
  refine cnF_congr n fun i _ => ?_
  unfold psF
  have e1 : plc (cut (d + 1) s) (a i).toNat 4 = plc g (a i).toNat 4 + plc (cut (d + 1) z) (a i).toNat 4 := by
    rw [← plc_add]
    refine plc_congr 4 fun k hk => ?_
    unfold cut
    by_cases h1 : k < d + 1
    · rw [if_pos h1, if_pos h1, hs k h1]
    · rw [if_neg h1, if_neg h1, g2 k (by omega)]; rfl
  rw [e1, eb]
  exact decide_eq_decide.2 ⟨fun h => by have h : plc g (a i).toNat 4 + plc (cut (d + 1) z) (a i).toNat 4 = b i + plc (cut (d + 1) z) (a i).toNat 4 := h; omega, fun h => by show plc g (a i).toNat 4 + plc (cut (d + 1) z) (a i).toNat 4 = b i + plc (cut (d + 1) z) (a i).toNat 4; omega⟩
end Go.Proofs.K
set_option linter.unusedVariables false
namespace Go.Proofs.K
open Go.As Go.ChangeShapes Go.WideShapes Go.Deep Go.ChangeAt Go.RowKit
set_option maxRecDepth 20000
set_option linter.unusedVariables false
section
variable {H : Type} {enc : TypeId × Value → H} {W : World}
theorem by4_read {v : Value} {d : DataW H} {ps : List MemPlace} {b0 : Nat} (hok : Value.okWide Try.prog W .any b0 47 v) (hd : DataW.Trod enc Try.prog W 0 (fun _ => true) true 47 v d ps) (hz : W.noneFrozen ps) :
    ∃ (p : Nat → Int), VR (mW W) (byV p) v := by
  simp only [Value.okWide, Try.underlying47] at hok
  obtain ⟨cs, rfl, hsz, ts, hts, _, hcell⟩ := hok
  have hts' : Try.prog.cellTypes Try.prog.depth 47 = some [46, 46, 46, 46] := by kernel_rfl
  rw [hts'] at hts
  cases hts
  have c25 : Try.prog.cellsOf 47 = 4 := by kernel_rfl
  rw [c25] at hsz
  have key : ∀ (i : Nat) (w : Value), Cell.okWide Try.prog W .any b0 46 w → ∃ x : Int, w = .int .i8 x := fun i w hw => by
    simp only [Cell.okWide, Try.underlying46, Cell.ok] at hw
    cases w <;> simp at hw
    rename_i k x
    exact ⟨x, by simp_all⟩
  obtain ⟨csl⟩ := cs
  match csl, hsz, hcell with
  | [a0, a1, a2, a3], _, hcell =>
  have g : ∀ (i : Nat) (w : Value), [a0, a1, a2, a3][i]? = some w → ∃ x : Int, w = .int .i8 x := fun i w hw => by
    obtain ⟨t, ht, hc⟩ := hcell i w (by simpa using hw)
    have hl : i < 4 := (List.getElem?_eq_some_iff.1 hw).1
    match i, hl with
    | 0, _ => cases ht; exact key 0 w hc
    | 1, _ => cases ht; exact key 0 w hc
    | 2, _ => cases ht; exact key 0 w hc
    | 3, _ => cases ht; exact key 0 w hc
  obtain ⟨x0, rfl⟩ := g 0 a0 rfl
  obtain ⟨x1, rfl⟩ := g 1 a1 rfl
  obtain ⟨x2, rfl⟩ := g 2 a2 rfl
  obtain ⟨x3, rfl⟩ := g 3 a3 rfl
  exact ⟨gL [x0, x1, x2, x3], Go.As.VRs.agg (.cons (.int _ _) (.cons (.int _ _) (.cons (.int _ _) (.cons (.int _ _) (.nil _)))))⟩
end
end Go.Proofs.K
set_option linter.unusedVariables false
namespace Go.Proofs.K
open Go.As
set_option maxRecDepth 20000
set_option linter.unusedVariables false
set_option linter.unusedSimpArgs false
/-! ### The law about a path that is added -/

set_option maxHeartbeats 16000000 in
theorem lawAdded (h : As.H) (D : Int) (n : Nat) (a b : Nat → Int) (hn : n ≤ 9223372036854775807) (p : Nat → Int) (w : Int) (hw : 0 ≤ w ∧ w ≤ 255) :
    CallOk Try.prog 10 [lgV D false n a b, byV p, .int .u8 w] h (.bool true) h := by
  have kWk := fun h : As.H => wwhole.everywhere rfl h
  have kR := fun h' => checkLogR_ok h' D false n a b hn
  by_cases hg : 20 < n
  · refine CallOk.run0 Try.func10 rfl rfl rfl rfl rfl (WpR.of_vc ?_)
    (conv => whnf); (repeat' (first | ((with_reducible refine ifb_mk (fun hc => ?_) (fun hc => ?_)) <;> ((try simp only [decide_eq_true_eq, decide_eq_false_iff_not, Bool.not_eq_true', Bool.not_eq_false', Int.not_lt, Int.not_le, ne_eq, Decidable.not_not, beq_iff_eq, List.cons.injEq, and_true] at hc); (first | (exfalso; omega) | exact absurd True.intro hc | conv => whnf))) | ((with_reducible refine And.intro True.intro ?_); conv => whnf) | ((with_reducible refine CallX.all ?_); refine CallW.of_ok (kWk _) ?_; conv => whnf) | ((with_reducible refine CallX.all (f := 40) ?_); refine CallW.inline Try.func40 rfl rfl (Nat.le_of_ble_eq_true rfl) (WpR.of_vc ?_); conv => whnf) | ((with_reducible refine CallX.all (f := 22) ?_); refine CallW.inline Try.func22 rfl rfl (Nat.le_of_ble_eq_true rfl) (WpR.of_vc ?_); conv => whnf) | ((with_reducible refine And.intro ?hh ?_); (case hh => exact condA); conv => whnf) | fail))
    all_goals first | (refine ⟨[], ?_, rfl, rfl, trivial, trivs⟩; simp only [renV, renL]; (first | done | rfl | (simp; done) | (simp; omega) | grind)) | (exfalso; omega)
  by_cases hv : ckL D n a b = 0
  rotate_left
  · generalize ckL D n a b = c at *
    refine CallOk.run0 Try.func10 rfl rfl rfl rfl rfl (WpR.of_vc ?_)
    (conv => whnf); (repeat' (first | ((with_reducible refine ifb_mk (fun hc => ?_) (fun hc => ?_)) <;> ((try simp only [decide_eq_true_eq, decide_eq_false_iff_not, Bool.not_eq_true', Bool.not_eq_false', Int.not_lt, Int.not_le, ne_eq, Decidable.not_not, beq_iff_eq, List.cons.injEq, and_true] at hc); (first | (exfalso; omega) | exact absurd True.intro hc | conv => whnf))) | ((with_reducible refine And.intro True.intro ?_); conv => whnf) | ((with_reducible refine CallX.all ?_); refine CallW.of_ok (kWk _) ?_; conv => whnf) | ((with_reducible refine CallX.all ?_); refine CallW.of_ok (kR _) ?_; conv => whnf) | ((with_reducible refine grd_ex ?_); refine ex_ok (kR _) ?_; conv => whnf) | ((with_reducible refine CallX.all (f := 40) ?_); refine CallW.inline Try.func40 rfl rfl (Nat.le_of_ble_eq_true rfl) (WpR.of_vc ?_); conv => whnf) | ((with_reducible refine CallX.all (f := 22) ?_); refine CallW.inline Try.func22 rfl rfl (Nat.le_of_ble_eq_true rfl) (WpR.of_vc ?_); conv => whnf) | ((with_reducible refine And.intro ?hh ?_); (case hh => exact condA); conv => whnf) | fail))
    all_goals first | (refine ⟨[], ?_, rfl, rfl, trivial, trivs⟩; simp only [renV, renL]; (first | done | rfl | (simp; done) | (simp; omega) | grind)) | (exfalso; omega)
  obtain ⟨hD, l⟩ := ckL_lg hv
  obtain ⟨d, rfl⟩ : ∃ d : Nat, D = (d : Int) := ⟨D.toNat, by omega⟩
  have hd3 : d ≤ 3 := by omega
  have hn12 := l.le
  have kG := fun h' => given_ok h' p d hd3
  have hz := gvF_bd p
  generalize gvF p = z at *
  have kA : ∀ j, j < n → ∀ h', CallOk Try.prog 45 [.rsl false 1 (d + 1) (iG z), .int .i64 (a j)] h' (.int .i64 (plc z (a j).toNat (d + 1))) h' := fun j hj h' => by
    have := l.rg j hj
    have k := atOf_ok h' false (d + 1) z (a j).toNat (by omega) (by omega) fun k _ => by have := hz k; omega
    rwa [show (((a j).toNat : Nat) : Int) = a j by omega] at k
  have hbb : ∀ j, j < n → InR (b j + plc z (a j).toNat (d + 1)) := fun j hj => by
    have h1 := l.rg j hj
    have h2 := l.at' j hj
    have h3 := plc_bd (p := z) (d := (a j).toNat) (n := d + 1) (B := 20) (by omega) (by omega) (fun k _ => hz k) (d + 1) (Nat.le_refl _)
    unfold InR; omega
  have hF := add_facts d hd3 n a b z hz hv _ rfl
  have hbs : ∀ j, (fun i => b i + plc z (a i).toNat (d + 1)) j = b j + plc z (a j).toNat (d + 1) := fun j => rfl
  generalize (fun i => b i + plc z (a i).toNat (d + 1)) = b' at *
  have ha := l.rg
  rw [hv] at kR
  clear l hv
  have hs0 : lsT a b' 0 = [] := rfl
  have hss : ∀ i, lsT a b' (i + 1) = (a i, b' i) :: lsT a b' i := fun i => rfl
  have hsl := lsT_len a b'
  have hTh : ∀ (h' : As.H) bb q, q = lsT a b' n → h'.get bb = some (grB 2 (gR eS q) q.length) → Th h' (fun _ => True) (lgV d false n a b') (.agg [.int .i64 d, grV bb q.length]) := fun h' bb q hq hb => by
    subst hq
    rw [hsl] at hb ⊢
    exact th_log trivial hb
  have kX := fun (h' : As.H) bb q hq hb => CallOk.thaw (checkLogR_ok As.H.empty d false n a b' hn) rfl h' (.cons (hTh h' bb q hq hb) .nil)
  generalize lsT a b' = SL at *
  refine CallOk.run0 Try.func10 rfl rfl rfl rfl rfl (WpR.of_vc ?_)
  (conv => whnf); (repeat' (first | ((with_reducible refine ifb_mk (fun hc => ?_) (fun hc => ?_)) <;> ((try simp only [decide_eq_true_eq, decide_eq_false_iff_not, Bool.not_eq_true', Bool.not_eq_false', Int.not_lt, Int.not_le, ne_eq, Decidable.not_not, beq_iff_eq, List.cons.injEq, and_true] at hc); (first | (exfalso; omega) | exact absurd True.intro hc | conv => whnf))) | ((with_reducible refine And.intro True.intro ?_); conv => whnf) | ((with_reducible refine CallX.all ?_); refine CallW.of_ok (kR _) ?_; conv => whnf) | ((with_reducible refine grd_ex ?_); refine ex_ok (kR _) ?_; conv => whnf) | ((with_reducible refine CallX.all ?_); refine CallW.of_ok (kG _) ?_; conv => whnf) | ((with_reducible refine CallX.all (f := 40) ?_); refine CallW.inline Try.func40 rfl rfl (Nat.le_of_ble_eq_true rfl) (WpR.of_vc ?_); conv => whnf) | ((with_reducible refine CallX.all (f := 22) ?_); refine CallW.inline Try.func22 rfl rfl (Nat.le_of_ble_eq_true rfl) (WpR.of_vc ?_); conv => whnf) | ((with_reducible refine And.intro ?hh ?_); (case hh => exact condA); conv => whnf) | fail))
  have hMap : ∀ i, ltB 6 (.cells (ofL [.int .i64 d, grV 5 i] 0) true none) := fun i => ltB_ofL (by intro v hv; (repeat (rcases List.mem_cons.1 hv with rfl | hv; (first | rfl | exact grV_lt rfl i))); cases hv)
  have hMapA : ∀ i, ltB 1000 (.cells (ofL [.int .i64 d, grV 5 i] 0) true none) := fun i => ltB_ofL (by intro v hv; (repeat (rcases List.mem_cons.1 hv with rfl | hv; (first | rfl | exact grV_lt rfl i))); cases hv)
  have hMap2 : ∀ l : List (Int × Int), ltB 6 (grB 2 (gR eS l) l.length) := fun l => grB_lt (gR_bare eS_bare) _
  refine WpR.loopA (ι := Nat × List (Int × Int)) [5] [0, 1, 2, 3, 4, 6, 7, 8] [4, 5] [] 6 (fun p => [(9, .int .i64 p.1)]) (fun p => [(4, .cells (ofL [.int .i64 d, grV 5 p.2.length] 0) true none), (5, grB 2 (gR eS p.2) p.2.length)]) (fun p => n - p.1) (fun p => p.1 ≤ n ∧ p.2 = SL p.1) ?_ ((0, [])) (⟨Nat.zero_le _, hs0.symm⟩) [] Back.auto
  rintro ⟨j, q⟩ ⟨j1, j2⟩
  dsimp only at j1 j2
  refine WpR.of_vc ?_
  have hql := hsl j
  rw [← j2] at hql
  by_cases hj : j < n
  · have e := hss j
    rw [← j2, hbs j] at e
    have kAj := kA j hj
    have y1 := hbb j hj
    generalize plc z (a j).toNat (d + 1) = pj at *
    (conv => whnf); (repeat' (first | ((with_reducible refine ifb_mk (fun hc => ?_) (fun hc => ?_)) <;> ((try simp only [decide_eq_true_eq, decide_eq_false_iff_not, Bool.not_eq_true', Bool.not_eq_false', Int.not_lt, Int.not_le, ne_eq, Decidable.not_not, beq_iff_eq, List.cons.injEq, and_true] at hc); (first | (exfalso; omega) | exact absurd True.intro hc | conv => whnf))) | ((with_reducible refine And.intro True.intro ?_); conv => whnf) | ((with_reducible refine grd_and ?_); refine And.intro (y1) ?_; conv => whnf) | ((with_reducible refine grd_and ?_); refine And.intro (hj) ?_; conv => whnf) | ((with_reducible refine CallX.all ?_); refine CallW.of_ok (kAj _) ?_; conv => whnf) | ((with_reducible refine grd_ex ?_); refine ex_ok (kAj _) ?_; conv => whnf) | ((with_reducible refine WpR.draw (id := 9) mixed [0, 1, 2, 3, 4, 5, 6, 7, 8, 9, 10, 11, 12, 13, 14, 15] [0, 1, 0, 4, 0, 16, 0, 0, 128, 448, 1008, 2044, 4092, 8191, 16383, 32767] ?hh ?_); (case hh => kernel_rfl); conv => whnf) | ((with_reducible refine WpR.draw (id := 32) mixed [0, 1, 2, 3, 4, 5, 6, 7, 8, 9, 10, 11, 12] [0, 0, 0, 6, 14, 0, 0, 96, 224, 510, 1022, 2047, 4095] ?hh ?_); (case hh => kernel_rfl); conv => whnf) | (refine AppX.gr (n := 1) (L := gR eS q) (len := q.length) rfl rfl (gS_len q) (gS_one q) Nat.zero_lt_one (by omega) ?_; conv => whnf) | ((with_reducible refine And.intro ?hh ?_); (case hh => exact condA); conv => whnf) | fail))
    all_goals first | (exfalso; omega) | exact ⟨(j + 1, (a j, b j + pj) :: q), [(5, 8)], by dsimp only; omega, ⟨by dsimp only; omega, e.symm⟩, Back.auto⟩
  · have ej : j = n := by omega
    subst ej
    have kX' := fun h' bb hb => kX h' bb q j2 hb
    have kTh := fun h' bb hb => hTh h' bb q j2 hb
    clear kX hTh hMap hMapA hMap2 kA hbb hss hs0
    have hnc : q = [] ∧ j = 0 ∨ ∃ y q', q = y :: q' ∧ j = q'.length + 1 := by
      cases q with
      | nil => exact .inl ⟨rfl, hql.symm⟩
      | cons y q' => exact .inr ⟨y, q', rfl, hql.symm⟩
    clear hsl j2
    by_cases hv' : ckL d j a b' = 0
    rotate_left
    · clear hF
      generalize ckL d j a b' = c' at *
      rcases hnc with ⟨rfl, e0⟩ | ⟨y, q', rfl, e0⟩
      all_goals
        clear kTh
        (conv => whnf); (repeat' (first | ((with_reducible refine ifb_mk (fun hc => ?_) (fun hc => ?_)) <;> ((try simp only [decide_eq_true_eq, decide_eq_false_iff_not, Bool.not_eq_true', Bool.not_eq_false', Int.not_lt, Int.not_le, ne_eq, Decidable.not_not, beq_iff_eq, List.cons.injEq, and_true] at hc); (first | (exfalso; omega) | exact absurd True.intro hc | conv => whnf))) | ((with_reducible refine And.intro True.intro ?_); conv => whnf) | ((with_reducible refine grd_and ?_); refine And.intro (hj) ?_; conv => whnf) | ((with_reducible refine CallX.all ?_); refine CallW.of_ok (kX' _ 5 rfl) ?_; conv => whnf) | ((with_reducible refine grd_ex ?_); refine ex_ok (kX' _ 5 rfl) ?_; conv => whnf) | ((with_reducible refine CallX.all ?_); refine CallW.of_ok (kWk _) ?_; conv => whnf) | ((with_reducible refine CallX.all (f := 40) ?_); refine CallW.inline Try.func40 rfl rfl (Nat.le_of_ble_eq_true rfl) (WpR.of_vc ?_); conv => whnf) | ((with_reducible refine CallX.all (f := 22) ?_); refine CallW.inline Try.func22 rfl rfl (Nat.le_of_ble_eq_true rfl) (WpR.of_vc ?_); conv => whnf) | ((with_reducible refine And.intro ?hh ?_); (case hh => exact condA); conv => whnf) | fail))
        all_goals first | (refine ⟨[], ?_, rfl, rfl, trivial, trivs⟩; simp only [renV, renL]; (first | done | rfl | (simp; done) | (simp; omega) | grind)) | (exfalso; omega)
    obtain ⟨m, e, c, o1, o2, k1, k2, k3, k4, k5, k6⟩ := hF hv'
    have k2' := fun h' bb hb => CallOk.thaw (k2 As.H.empty) rfl h' (.cons (kTh h' bb hb) .nil)
    have k4' := fun h' bb hb => CallOk.thaw (k4 As.H.empty) rfl h' (.cons (kTh h' bb hb) .nil)
    clear hF k2 k4
    rw [hv'] at kX'
    rcases o1 with rfl | ⟨rfl, rfl, rfl⟩
    rotate_left
    · clear k5 k6 hv'
      rcases hnc with ⟨rfl, e0⟩ | ⟨y, q', rfl, e0⟩
      all_goals
        clear kTh
        (conv => whnf); (repeat' (first | ((with_reducible refine ifb_mk (fun hc => ?_) (fun hc => ?_)) <;> ((try simp only [decide_eq_true_eq, decide_eq_false_iff_not, Bool.not_eq_true', Bool.not_eq_false', Int.not_lt, Int.not_le, ne_eq, Decidable.not_not, beq_iff_eq, List.cons.injEq, and_true] at hc); (first | (exfalso; omega) | exact absurd True.intro hc | conv => whnf))) | ((with_reducible refine And.intro True.intro ?_); conv => whnf) | ((with_reducible refine grd_and ?_); refine And.intro (hj) ?_; conv => whnf) | ((with_reducible refine CallX.all ?_); refine CallW.of_ok (kX' _ 5 rfl) ?_; conv => whnf) | ((with_reducible refine grd_ex ?_); refine ex_ok (kX' _ 5 rfl) ?_; conv => whnf) | ((with_reducible refine CallX.all ?_); refine CallW.of_ok (kWk _) ?_; conv => whnf) | ((with_reducible refine grd_ex ?_); refine ex_ok (kWk _) ?_; conv => whnf) | ((with_reducible refine CallX.all ?_); refine CallW.of_ok (k1 _) ?_; conv => whnf) | ((with_reducible refine CallX.all ?_); refine CallW.of_ok (k3 _) ?_; conv => whnf) | ((with_reducible refine CallX.all ?_); refine CallW.of_ok (k2' _ 5 rfl) ?_; conv => whnf) | ((with_reducible refine CallX.all ?_); refine CallW.of_ok (k4' _ 5 rfl) ?_; conv => whnf) | ((with_reducible refine CallX.all (f := 40) ?_); refine CallW.inline Try.func40 rfl rfl (Nat.le_of_ble_eq_true rfl) (WpR.of_vc ?_); conv => whnf) | ((with_reducible refine CallX.all (f := 22) ?_); refine CallW.inline Try.func22 rfl rfl (Nat.le_of_ble_eq_true rfl) (WpR.of_vc ?_); conv => whnf) | ((with_reducible refine WpR.draw (id := 9) mixed [0, 1, 2, 3, 4, 5, 6, 7, 8, 9, 10, 11, 12, 13, 14, 15] [0, 1, 0, 4, 0, 16, 0, 0, 128, 448, 1008, 2044, 4092, 8191, 16383, 32767] ?hh ?_); (case hh => kernel_rfl); conv => whnf) | ((with_reducible refine WpR.draw (id := 32) mixed [0, 1, 2, 3, 4, 5, 6, 7, 8, 9, 10, 11, 12] [0, 0, 0, 6, 14, 0, 0, 96, 224, 510, 1022, 2047, 4095] ?hh ?_); (case hh => kernel_rfl); conv => whnf) | ((with_reducible refine And.intro ?hh ?_); (case hh => exact condA); conv => whnf) | fail))
        all_goals first | (refine ⟨[], ?_, rfl, rfl, trivial, trivs⟩; simp only [renV, renL]; (first | done | rfl | (simp; done) | (simp; omega) | grind)) | (exfalso; omega)
    have hj0 : 0 < j := by
      apply Classical.byContradiction
      intro h0
      have := o2 (by omega)
      cases this
    obtain ⟨x, ex1, hx⟩ : ∃ x : Nat, (IntKind.i64.wrap w).tmod j = x ∧ x < j := by
      rw [u8w hw, Int.tmod_eq_emod_of_nonneg hw.1]
      have h1 := Int.emod_nonneg w (b := j) (by omega)
      have h2 := Int.emod_lt_of_pos w (b := j) (by omega)
      exact ⟨(w % j).toNat, by omega, by omega⟩
    have y1 : InR ((IntKind.i64.wrap w).tmod j) := by rw [ex1]; unfold InR; omega
    obtain ⟨kd, k8, k9⟩ := k5 x hx
    rw [← ex1] at k8 k9
    have k9' := fun h' bb hb => CallOk.thaw (k9 As.H.empty) rfl h' (.cons (kTh h' bb hb) (.cons (.same rfl) .nil))
    obtain ⟨g, g1, kP, kC⟩ := k6 rfl
    have kC' : ∀ (L : List Int), L.length = d + 1 → (∀ k, k < d + 1 → gL L k = g k + z k) → ∀ (h' : As.H) bb (hb : h'.get bb = some (grB 2 (gR eS q) q.length)) b2 cap ex gg (hcap : d + 1 ≤ cap) (hb2 : h'.get b2 = some (.cells (ofL (iVs L) 0) true gg)),
        CallOk Try.prog 25 [.agg [.int .i64 d, grV bb q.length], .sl b2 0 (d + 1) cap ex] h' (.tup [.int .i64 m, .int .i64 0]) h' := fun L hL hs h' bb hb b2 cap ex gg hcap hb2 => by
      obtain ⟨c1, c2⟩ := kC (gL L) hs
      have k := checkPathP_ok As.H.empty d false false j a b' hn (d + 1) (by omega) (gL L)
      rw [c1, c2] at k
      exact CallOk.thaw k rfl h' (.cons (kTh h' bb hb) (.cons (th_own trivial hL.symm hcap hb2) .nil))
    have g10 := g1 0 (by omega)
    have g11 := g1 1 (by omega)
    have g12 := g1 2 (by omega)
    have g13 := g1 3 (by omega)
    have z0 := hz 0
    have z1 := hz 1
    have z2 := hz 2
    have z3 := hz 3
    have w0 : InR (g 0 + z 0) := by unfold InR; omega
    have w1 : InR (g 1 + z 1) := by unfold InR; omega
    have w2 : InR (g 2 + z 2) := by unfold InR; omega
    have w3 : InR (g 3 + z 3) := by unfold InR; omega
    clear k5 k6 k9 kC kTh hv' o2 g1 hz ha
    obtain ⟨y, q', rfl, e0⟩ : ∃ y q', q = y :: q' ∧ j = q'.length + 1 := by
      rcases hnc with ⟨rfl, e0⟩ | h
      · exact absurd e0 (by omega)
      · exact h
    clear hnc
    have h4 : d = 0 ∨ d = 1 ∨ d = 2 ∨ d = 3 := by omega
    rcases h4 with rfl | rfl | rfl | rfl
    · have kC' := kC' [g 0 + z 0] rfl (fun k hk => match k, hk with | 0, _ => rfl)
      (conv => whnf); (repeat' (first | ((with_reducible refine ifb_mk (fun hc => ?_) (fun hc => ?_)) <;> ((try simp only [decide_eq_true_eq, decide_eq_false_iff_not, Bool.not_eq_true', Bool.not_eq_false', Int.not_lt, Int.not_le, ne_eq, Decidable.not_not, beq_iff_eq, List.cons.injEq, and_true] at hc); (first | (exfalso; omega) | exact absurd True.intro hc | conv => whnf))) | ((with_reducible refine And.intro True.intro ?_); conv => whnf) | ((with_reducible refine WpR.loopU 5 ?_); conv => whnf) | ((with_reducible refine grd_and ?_); refine And.intro (hj) ?_; conv => whnf) | ((with_reducible refine grd_and ?_); refine And.intro (y1) ?_; conv => whnf) | ((with_reducible refine grd_and ?_); refine And.intro (w0) ?_; conv => whnf) | ((with_reducible refine grd_and ?_); refine And.intro (w1) ?_; conv => whnf) | ((with_reducible refine grd_and ?_); refine And.intro (w2) ?_; conv => whnf) | ((with_reducible refine grd_and ?_); refine And.intro (w3) ?_; conv => whnf) | ((with_reducible refine CallX.all ?_); refine CallW.of_ok (kX' _ 5 rfl) ?_; conv => whnf) | ((with_reducible refine grd_ex ?_); refine ex_ok (kX' _ 5 rfl) ?_; conv => whnf) | ((with_reducible refine CallX.all ?_); refine CallW.of_ok (kWk _) ?_; conv => whnf) | ((with_reducible refine grd_ex ?_); refine ex_ok (kWk _) ?_; conv => whnf) | ((with_reducible refine CallX.all ?_); refine CallW.of_ok (k1 _) ?_; conv => whnf) | ((with_reducible refine CallX.all ?_); refine CallW.of_ok (k3 _) ?_; conv => whnf) | ((with_reducible refine CallX.all ?_); refine CallW.of_ok (k2' _ 5 rfl) ?_; conv => whnf) | ((with_reducible refine CallX.all ?_); refine CallW.of_ok (k4' _ 5 rfl) ?_; conv => whnf) | ((with_reducible refine CallX.all ?_); refine CallW.of_ok (k8 _) ?_; conv => whnf) | ((with_reducible refine CallX.all ?_); refine CallW.of_ok (k9' _ 5 rfl) ?_; conv => whnf) | ((with_reducible refine CallX.all ?_); refine CallW.of_ok (kP _) ?_; conv => whnf) | ((with_reducible refine CallX.all ?_); refine CallW.of_ok (kC' _ 5 rfl _ _ _ _ (by omega) rfl) ?_; conv => whnf) | (refine AppX.nil (n := 1) Nat.zero_lt_one (Nat.le_of_ble_eq_true rfl) ?_; conv => whnf) | (refine AppX.own (n := 1) rfl rfl rfl Nat.zero_lt_one (Nat.le_of_ble_eq_true rfl) ?_; conv => whnf) | ((with_reducible refine CallX.all (f := 40) ?_); refine CallW.inline Try.func40 rfl rfl (Nat.le_of_ble_eq_true rfl) (WpR.of_vc ?_); conv => whnf) | ((with_reducible refine CallX.all (f := 22) ?_); refine CallW.inline Try.func22 rfl rfl (Nat.le_of_ble_eq_true rfl) (WpR.of_vc ?_); conv => whnf) | ((with_reducible refine WpR.draw (id := 9) mixed [0, 1, 2, 3, 4, 5, 6, 7, 8, 9, 10, 11, 12, 13, 14, 15] [0, 1, 0, 4, 0, 16, 0, 0, 128, 448, 1008, 2044, 4092, 8191, 16383, 32767] ?hh ?_); (case hh => kernel_rfl); conv => whnf) | ((with_reducible refine WpR.draw (id := 32) mixed [0, 1, 2, 3, 4, 5, 6, 7, 8, 9, 10, 11, 12] [0, 0, 0, 6, 14, 0, 0, 96, 224, 510, 1022, 2047, 4095] ?hh ?_); (case hh => kernel_rfl); conv => whnf) | ((with_reducible refine And.intro ?hh ?_); (case hh => exact condA); conv => whnf) | fail))
      all_goals first | (refine ⟨[], ?_, rfl, rfl, trivial, trivs⟩; simp only [renV, renL]; (first | done | rfl | (simp; done) | (simp; omega) | grind)) | (exfalso; omega)
    · have kC' := kC' [g 0 + z 0, g 1 + z 1] rfl (fun k hk => match k, hk with | 0, _ => rfl | 1, _ => rfl)
      (conv => whnf); (repeat' (first | ((with_reducible refine ifb_mk (fun hc => ?_) (fun hc => ?_)) <;> ((try simp only [decide_eq_true_eq, decide_eq_false_iff_not, Bool.not_eq_true', Bool.not_eq_false', Int.not_lt, Int.not_le, ne_eq, Decidable.not_not, beq_iff_eq, List.cons.injEq, and_true] at hc); (first | (exfalso; omega) | exact absurd True.intro hc | conv => whnf))) | ((with_reducible refine And.intro True.intro ?_); conv => whnf) | ((with_reducible refine WpR.loopU 5 ?_); conv => whnf) | ((with_reducible refine grd_and ?_); refine And.intro (hj) ?_; conv => whnf) | ((with_reducible refine grd_and ?_); refine And.intro (y1) ?_; conv => whnf) | ((with_reducible refine grd_and ?_); refine And.intro (w0) ?_; conv => whnf) | ((with_reducible refine grd_and ?_); refine And.intro (w1) ?_; conv => whnf) | ((with_reducible refine grd_and ?_); refine And.intro (w2) ?_; conv => whnf) | ((with_reducible refine grd_and ?_); refine And.intro (w3) ?_; conv => whnf) | ((with_reducible refine CallX.all ?_); refine CallW.of_ok (kX' _ 5 rfl) ?_; conv => whnf) | ((with_reducible refine grd_ex ?_); refine ex_ok (kX' _ 5 rfl) ?_; conv => whnf) | ((with_reducible refine CallX.all ?_); refine CallW.of_ok (kWk _) ?_; conv => whnf) | ((with_reducible refine grd_ex ?_); refine ex_ok (kWk _) ?_; conv => whnf) | ((with_reducible refine CallX.all ?_); refine CallW.of_ok (k1 _) ?_; conv => whnf) | ((with_reducible refine CallX.all ?_); refine CallW.of_ok (k3 _) ?_; conv => whnf) | ((with_reducible refine CallX.all ?_); refine CallW.of_ok (k2' _ 5 rfl) ?_; conv => whnf) | ((with_reducible refine CallX.all ?_); refine CallW.of_ok (k4' _ 5 rfl) ?_; conv => whnf) | ((with_reducible refine CallX.all ?_); refine CallW.of_ok (k8 _) ?_; conv => whnf) | ((with_reducible refine CallX.all ?_); refine CallW.of_ok (k9' _ 5 rfl) ?_; conv => whnf) | ((with_reducible refine CallX.all ?_); refine CallW.of_ok (kP _) ?_; conv => whnf) | ((with_reducible refine CallX.all ?_); refine CallW.of_ok (kC' _ 5 rfl _ _ _ _ (by omega) rfl) ?_; conv => whnf) | (refine AppX.nil (n := 1) Nat.zero_lt_one (Nat.le_of_ble_eq_true rfl) ?_; conv => whnf) | (refine AppX.own (n := 1) rfl rfl rfl Nat.zero_lt_one (Nat.le_of_ble_eq_true rfl) ?_; conv => whnf) | ((with_reducible refine CallX.all (f := 40) ?_); refine CallW.inline Try.func40 rfl rfl (Nat.le_of_ble_eq_true rfl) (WpR.of_vc ?_); conv => whnf) | ((with_reducible refine CallX.all (f := 22) ?_); refine CallW.inline Try.func22 rfl rfl (Nat.le_of_ble_eq_true rfl) (WpR.of_vc ?_); conv => whnf) | ((with_reducible refine WpR.draw (id := 9) mixed [0, 1, 2, 3, 4, 5, 6, 7, 8, 9, 10, 11, 12, 13, 14, 15] [0, 1, 0, 4, 0, 16, 0, 0, 128, 448, 1008, 2044, 4092, 8191, 16383, 32767] ?hh ?_); (case hh => kernel_rfl); conv => whnf) | ((with_reducible refine WpR.draw (id := 32) mixed [0, 1, 2, 3, 4, 5, 6, 7, 8, 9, 10, 11, 12] [0, 0, 0, 6, 14, 0, 0, 96, 224, 510, 1022, 2047, 4095] ?hh ?_); (case hh => kernel_rfl); conv => whnf) | ((with_reducible refine And.intro ?hh ?_); (case hh => exact condA); conv => whnf) | fail))
      all_goals first | (refine ⟨[], ?_, rfl, rfl, trivial, trivs⟩; simp only [renV, renL]; (first | done | rfl | (simp; done) | (simp; omega) | grind)) | (exfalso; omega)
    · have kC' := kC' [g 0 + z 0, g 1 + z 1, g 2 + z 2] rfl (fun k hk => match k, hk with | 0, _ => rfl | 1, _ => rfl | 2, _ => rfl)
      (conv => whnf); (repeat' (first | ((with_reducible refine ifb_mk (fun hc => ?_) (fun hc => ?_)) <;> ((try simp only [decide_eq_true_eq, decide_eq_false_iff_not, Bool.not_eq_true', Bool.not_eq_false', Int.not_lt, Int.not_le, ne_eq, Decidable.not_not, beq_iff_eq, List.cons.injEq, and_true] at hc); (first | (exfalso; omega) | exact absurd True.intro hc | conv => whnf))) | ((with_reducible refine And.intro True.intro ?_); conv => whnf) | ((with_reducible refine WpR.loopU 5 ?_); conv => whnf) | ((with_reducible refine grd_and ?_); refine And.intro (hj) ?_; conv => whnf) | ((with_reducible refine grd_and ?_); refine And.intro (y1) ?_; conv => whnf) | ((with_reducible refine grd_and ?_); refine And.intro (w0) ?_; conv => whnf) | ((with_reducible refine grd_and ?_); refine And.intro (w1) ?_; conv => whnf) | ((with_reducible refine grd_and ?_); refine And.intro (w2) ?_; conv => whnf) | ((with_reducible refine grd_and ?_); refine And.intro (w3) ?_; conv => whnf) | ((with_reducible refine CallX.all ?_); refine CallW.of_ok (kX' _ 5 rfl) ?_; conv => whnf) | ((with_reducible refine grd_ex ?_); refine ex_ok (kX' _ 5 rfl) ?_; conv => whnf) | ((with_reducible refine CallX.all ?_); refine CallW.of_ok (kWk _) ?_; conv => whnf) | ((with_reducible refine grd_ex ?_); refine ex_ok (kWk _) ?_; conv => whnf) | ((with_reducible refine CallX.all ?_); refine CallW.of_ok (k1 _) ?_; conv => whnf) | ((with_reducible refine CallX.all ?_); refine CallW.of_ok (k3 _) ?_; conv => whnf) | ((with_reducible refine CallX.all ?_); refine CallW.of_ok (k2' _ 5 rfl) ?_; conv => whnf) | ((with_reducible refine CallX.all ?_); refine CallW.of_ok (k4' _ 5 rfl) ?_; conv => whnf) | ((with_reducible refine CallX.all ?_); refine CallW.of_ok (k8 _) ?_; conv => whnf) | ((with_reducible refine CallX.all ?_); refine CallW.of_ok (k9' _ 5 rfl) ?_; conv => whnf) | ((with_reducible refine CallX.all ?_); refine CallW.of_ok (kP _) ?_; conv => whnf) | ((with_reducible refine CallX.all ?_); refine CallW.of_ok (kC' _ 5 rfl _ _ _ _ (by omega) rfl) ?_; conv => whnf) | (refine AppX.nil (n := 1) Nat.zero_lt_one (Nat.le_of_ble_eq_true rfl) ?_; conv => whnf) | (refine AppX.own (n := 1) rfl rfl rfl Nat.zero_lt_one (Nat.le_of_ble_eq_true rfl) ?_; conv => whnf) | ((with_reducible refine CallX.all (f := 40) ?_); refine CallW.inline Try.func40 rfl rfl (Nat.le_of_ble_eq_true rfl) (WpR.of_vc ?_); conv => whnf) | ((with_reducible refine CallX.all (f := 22) ?_); refine CallW.inline Try.func22 rfl rfl (Nat.le_of_ble_eq_true rfl) (WpR.of_vc ?_); conv => whnf) | ((with_reducible refine WpR.draw (id := 9) mixed [0, 1, 2, 3, 4, 5, 6, 7, 8, 9, 10, 11, 12, 13, 14, 15] [0, 1, 0, 4, 0, 16, 0, 0, 128, 448, 1008, 2044, 4092, 8191, 16383, 32767] ?hh ?_); (case hh => kernel_rfl); conv => whnf) | ((with_reducible refine WpR.draw (id := 32) mixed [0, 1, 2, 3, 4, 5, 6, 7, 8, 9, 10, 11, 12] [0, 0, 0, 6, 14, 0, 0, 96, 224, 510, 1022, 2047, 4095] ?hh ?_); (case hh => kernel_rfl); conv => whnf) | ((with_reducible refine And.intro ?hh ?_); (case hh => exact condA); conv => whnf) | fail))
      all_goals first | (refine ⟨[], ?_, rfl, rfl, trivial, trivs⟩; simp only [renV, renL]; (first | done | rfl | (simp; done) | (simp; omega) | grind)) | (exfalso; omega)
    · have kC' := kC' [g 0 + z 0, g 1 + z 1, g 2 + z 2, g 3 + z 3] rfl (fun k hk => match k, hk with | 0, _ => rfl | 1, _ => rfl | 2, _ => rfl | 3, _ => rfl)
      (conv => whnf); (repeat' (first | ((with_reducible refine ifb_mk (fun hc => ?_) (fun hc => ?_)) <;> ((try simp only [decide_eq_true_eq, decide_eq_false_iff_not, Bool.not_eq_true', Bool.not_eq_false', Int.not_lt, Int.not_le, ne_eq, Decidable.not_not, beq_iff_eq, List.cons.injEq, and_true] at hc); (first | (exfalso; omega) | exact absurd True.intro hc | conv => whnf))) | ((with_reducible refine And.intro True.intro ?_); conv => whnf) | ((with_reducible refine WpR.loopU 5 ?_); conv => whnf) | ((with_reducible refine grd_and ?_); refine And.intro (hj) ?_; conv => whnf) | ((with_reducible refine grd_and ?_); refine And.intro (y1) ?_; conv => whnf) | ((with_reducible refine grd_and ?_); refine And.intro (w0) ?_; conv => whnf) | ((with_reducible refine grd_and ?_); refine And.intro (w1) ?_; conv => whnf) | ((with_reducible refine grd_and ?_); refine And.intro (w2) ?_; conv => whnf) | ((with_reducible refine grd_and ?_); refine And.intro (w3) ?_; conv => whnf) | ((with_reducible refine CallX.all ?_); refine CallW.of_ok (kX' _ 5 rfl) ?_; conv => whnf) | ((with_reducible refine grd_ex ?_); refine ex_ok (kX' _ 5 rfl) ?_; conv => whnf) | ((with_reducible refine CallX.all ?_); refine CallW.of_ok (kWk _) ?_; conv => whnf) | ((with_reducible refine grd_ex ?_); refine ex_ok (kWk _) ?_; conv => whnf) | ((with_reducible refine CallX.all ?_); refine CallW.of_ok (k1 _) ?_; conv => whnf) | ((with_reducible refine CallX.all ?_); refine CallW.of_ok (k3 _) ?_; conv => whnf) | ((with_reducible refine CallX.all ?_); refine CallW.of_ok (k2' _ 5 rfl) ?_; conv => whnf) | ((with_reducible refine CallX.all ?_); refine CallW.of_ok (k4' _ 5 rfl) ?_; conv => whnf) | ((with_reducible refine CallX.all ?_); refine CallW.of_ok (k8 _) ?_; conv => whnf) | ((with_reducible refine CallX.all ?_); refine CallW.of_ok (k9' _ 5 rfl) ?_; conv => whnf) | ((with_reducible refine CallX.all ?_); refine CallW.of_ok (kP _) ?_; conv => whnf) | ((with_reducible refine CallX.all ?_); refine CallW.of_ok (kC' _ 5 rfl _ _ _ _ (by omega) rfl) ?_; conv => whnf) | (refine AppX.nil (n := 1) Nat.zero_lt_one (Nat.le_of_ble_eq_true rfl) ?_; conv => whnf) | (refine AppX.own (n := 1) rfl rfl rfl Nat.zero_lt_one (Nat.le_of_ble_eq_true rfl) ?_; conv => whnf) | ((with_reducible refine CallX.all (f := 40) ?_); refine CallW.inline Try.func40 rfl rfl (Nat.le_of_ble_eq_true rfl) (WpR.of_vc ?_); conv => whnf) | ((with_reducible refine CallX.all (f := 22) ?_); refine CallW.inline Try.func22 rfl rfl (Nat.le_of_ble_eq_true rfl) (WpR.of_vc ?_); conv => whnf) | ((with_reducible refine WpR.draw (id := 9) mixed [0, 1, 2, 3, 4, 5, 6, 7, 8, 9, 10, 11, 12, 13, 14, 15] [0, 1, 0, 4, 0, 16, 0, 0, 128, 448, 1008, 2044, 4092, 8191, 16383, 32767] ?hh ?_); (case hh => kernel_rfl); conv => whnf) | ((with_reducible refine WpR.draw (id := 32) mixed [0, 1, 2, 3, 4, 5, 6, 7, 8, 9, 10, 11, 12] [0, 0, 0, 6, 14, 0, 0, 96, 224, 510, 1022, 2047, 4095] ?hh ?_); (case hh => kernel_rfl); conv => whnf) | ((with_reducible refine And.intro ?hh ?_); (case hh => exact condA); conv => whnf) | fail))
      all_goals first | (refine ⟨[], ?_, rfl, rfl, trivial, trivs⟩; simp only [renV, renL]; (first | done | rfl | (simp; done) | (simp; omega) | grind)) | (exfalso; omega)
end Go.Proofs.K
