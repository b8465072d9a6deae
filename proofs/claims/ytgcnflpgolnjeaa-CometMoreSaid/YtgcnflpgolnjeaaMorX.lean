/- What the functions answer that the laws call, one after another (MorX). -/
import Derived.Test.YtgcnflpgolnjeaaB0
import Derived.Test.YtgcnflpgolnjeaaB7
import Derived.Test.YtgcnflpgolnjeaaTh
import Derived.Test.YtgcnflpgolnjeaaB10
import Derived.Test.YtgcnflpgolnjeaaBst
import Derived.Test.YtgcnflpgolnjeaaMst
import Derived.Test.YtgcnflpgolnjeaaBso
import Derived.Test.YtgcnflpgolnjeaaPth
import Derived.Test.YtgcnflpgolnjeaaKnd
import Derived.Test.YtgcnflpgolnjeaaChk
import Derived.Test.YtgcnflpgolnjeaaThr
import Derived.Test.YtgcnflpgolnjeaaLst
import Derived.Test.YtgcnflpgolnjeaaExa
import Derived.Test.YtgcnflpgolnjeaaWk
import Derived.Test.YtgcnflpgolnjeaaLeaX
import Derived.Test.YtgcnflpgolnjeaaTurX
import GoSem.Step
import Derived.KernelRfl
import Derived.Laws.World
import Derived.Laws.Sem
import Derived.Laws.Cells
import Derived.Laws.IdiomCopy
import Derived.Maps.RangeRun
import Derived.Laws.NewFold
import Derived.RangeFuncLeaves
import Derived.LoopNIn
import Derived.RangeFuncRecord
import Derived.OrdersIn
import Derived.ChangeSame
import Derived.Deep.Slices
import Derived.ReadAgain
import Derived.OpenShut
import Derived.Below
import Derived.WalkKit
import Derived.ProofKit
import Derived.Carry

set_option linter.unusedVariables false
set_option linter.unusedVariables false
namespace Go.Proofs.K
open Go.As
set_option maxRecDepth 20000
set_option linter.unusedVariables false
set_option linter.unusedSimpArgs false
theorem wiR_t {A B : Int} {n : Nat} {s : Nat → Int} (h : ∀ i, i < n → A ≤ s i ∧ s i ≤ B) : wiR A B n s = true := allF_t fun i hi => decide_eq_true (h i hi)
theorem ckC_0 {m : Nat} {a : Nat → Int} {d : Int} (hm : 1 ≤ m ∧ m ≤ 4) (ha : ∀ i, i < m → -1099511627776 ≤ a i ∧ a i ≤ 1099511627776) (hd : 0 ≤ d ∧ d ≤ 60) : ckC m a d = 0 := by
  unfold ckC ckP
  simp only [hm, and_self, if_true, wiR_t ha, hd]
end Go.Proofs.K
set_option linter.unusedVariables false
namespace Go.Proofs.K
open Go.As
set_option maxRecDepth 20000
set_option linter.unusedVariables false
set_option linter.unusedSimpArgs false
/-! ### A path is added: what is told -/

theorem csP_sm2 {n : Nat} {x y : Nat → Int} (h : Dy n x) (hy : Pl n y) : Sm 700000000000 4 (thP n x y) := by
  intro k hk
  have b0 := qP_bd h hy (d := 0) (by omega)
  have b1 := qP_bd h hy (d := 1) (by omega)
  have b2 := qP_bd h hy (d := 2) (by omega)
  have b3 := qP_bd h hy (d := 3) (by omega)
  unfold thP
  cases alW n x y with
  | false => show _ ≤ (0 : Int) ∧ (0 : Int) ≤ _; omega
  | true =>
    show _ ≤ csP n (qP n x y) k ∧ csP n (qP n x y) k ≤ _
    unfold csP cut
    generalize qP n x y = q at *
    by_cases e : k < n
    · rw [if_pos e]
      match k, hk with
      | 0, _ => show _ ≤ q 0 ∧ q 0 ≤ _; omega
      | 1, _ => show _ ≤ q 1 - q 0 ∧ q 1 - q 0 ≤ _; omega
      | 2, _ => show _ ≤ q 2 - q 1 - (q 1 - q 0) ∧ q 2 - q 1 - (q 1 - q 0) ≤ _; omega
      | 3, _ => show _ ≤ q 3 - q 2 - (q 2 - q 1) - (q 2 - q 1 - (q 1 - q 0)) ∧ q 3 - q 2 - (q 2 - q 1) - (q 2 - q 1 - (q 1 - q 0)) ≤ _; omega
    · rw [if_neg e]; omega
/-- The best path that is returned. -/
theorem path_facts (d : Nat) (hd : d ≤ 3) (ex : Bool) (n : Nat) (a b : Nat → Int) (hv : ckL d n a b = 0) {c : C4} {q : List C4} (hF : mpS d n a b (2 ^ n) = c :: q) :
    ∃ g : Nat → Int, Sm 700000000000 4 g ∧ (∀ k, d < k → g k = 0) ∧ cnF (psF g a b) n = mxC (cnC n a b) (prQ (c :: q)) ∧ d + 1 ≤ mxC (cnC n a b) (prQ (c :: q)) ∧ mxC (cnC n a b) (prQ (c :: q)) ≤ n ∧
      ∀ h, CallOk Try.prog 35 [lgV d ex n a b] h (.tup [.rsl false 1 (d + 1) (iG g), .int .i64 0]) h := by
  have l := (ckL_lg hv).2
  obtain ⟨hM, g, hg, hl, hl2⟩ := best_set hF
  have kP := fun h => pathP_new h d hd ex n a b hv hF g hg hl hl2
  unfold lvG at hl
  rw [Bool.and_eq_true, Bool.and_eq_true, decide_eq_true_eq, decide_eq_true_eq] at hl
  have hmem := mpS_all (D := d) (a := a) (b := b) _ g hg hl.1 hl.2.1
  have hge := mx_ge (cn := cnC n a b) (q := c :: q) (c := c4 (crG n a b g)) (by rw [← hF]; exact hmem)
  have h2 := ((mpS_iff hd l).1 hmem).2
  rw [cnC_eq] at hge h2
  exact ⟨crG n a b g, csP_sm2 (slF_dy (by omega) l.rg l.up) (slF_pl l.at'), fun k hk => th_z (by omega), by omega, by omega, hM, kP⟩
end Go.Proofs.K
set_option linter.unusedVariables false
namespace Go.Proofs.K
open Go.As
set_option maxRecDepth 20000
set_option linter.unusedVariables false
set_option linter.unusedSimpArgs false
/-! ### One more sighting -/

theorem flat2_at {g : Nat → List V} (hg : ∀ i, (g i).length = 2) : ∀ n i j k, j < n → k < 2 → (flat g n i)[j * 2 + k]? = (g (i + j))[k]?
  | 0, i, j, k, h, _ => absurd h (Nat.not_lt_zero _)
  | n + 1, i, 0, k, _, hk => by
    show (g i ++ flat g n (i + 1))[0 * 2 + k]? = (g (i + 0))[k]?
    rw [List.getElem?_append_left (by rw [hg]; omega)]
    rw [Nat.zero_mul, Nat.zero_add, Nat.add_zero]
  | n + 1, i, j + 1, k, h, hk => by
    show (g i ++ flat g n (i + 1))[(j + 1) * 2 + k]? = (g (i + (j + 1)))[k]?
    rw [List.getElem?_append_right (by rw [hg]; omega), hg, show (j + 1) * 2 + k - 2 = j * 2 + k by omega, flat2_at hg n (i + 1) j k (by omega) hk, show i + 1 + j = i + (j + 1) by omega]
theorem flat2_len {g : Nat → List V} (hg : ∀ i, (g i).length = 2) : ∀ n i, (flat g n i).length = n * 2
  | 0, _ => by simp [flat]
  | n + 1, i => by
    show (g i ++ flat g n (i + 1)).length = (n + 1) * 2
    rw [List.length_append, hg, flat2_len hg n]; omega
theorem flat_bare {g : Nat → List V} (hg : ∀ i, ∀ v ∈ g i, bare0 v = true) : ∀ n i, ∀ v ∈ flat g n i, bare0 v = true
  | 0, _, v, h => by cases h
  | n + 1, i, v, h => by
    have h' : v ∈ g i ++ flat g n (i + 1) := h
    rcases List.mem_append.1 h' with h | h
    · exact hg i v h
    · exact flat_bare hg n (i + 1) v h
theorem lk_len (a b : Nat → Int) (i : Nat) : (lkG a b i).length = 2 := rfl
theorem lk_bare (a b : Nat → Int) (i : Nat) : ∀ v ∈ lkG a b i, bare0 v = true := by
  intro v hv
  rcases List.mem_cons.1 hv with rfl | hv
  · rfl
  · rw [List.mem_singleton.1 hv]; rfl
theorem flat_one (a b : Nat → Int) (n : Nat) : (flat (lkG a b) n 0).all one = true := List.all_eq_true.2 fun v hv => one_of_bare (flat_bare (lk_bare a b) n 0 v hv)
theorem added_lk (h : As.H) (ex : Bool) (n : Nat) (a b : Nat → Int) : added 2 h (.rsl ex 2 n (lkG a b)) = some (n, flat (lkG a b) n 0) := by
  show (if (flat (lkG a b) n 0).all one = true ∧ (flat (lkG a b) n 0).length = n * 2 then some (n, flat (lkG a b) n 0) else none) = _
  rw [if_pos ⟨flat_one a b n, flat2_len (lk_len a b) n 0⟩]
def nxF (a : Nat → Int) (n : Nat) (d : Int) (i : Nat) : Int := if i < n then a i else d
theorem th_more {h : As.H} {q : Nat → Prop} {D d e : Int} {bb : Nat} {a b : Nat → Int} {n m cap : Nat} {ex : Bool} {gg : Option (Nat × Nat)} (hm : m = n + 1) (hcap : m ≤ cap) (hq : q bb) (hb : h.get bb = some (.cells (ofL (([] ++ flat (lkG a b) n 0) ++ [.int .i64 d, .int .i64 e]) 0) true gg)) : Th h q (lgV D false (n + 1) (nxF a n d) (nxF b n e)) (.agg [.int .i64 D, .sl bb 0 m cap ex]) := by
  subst hm
  refine (ThL.cons (.same rfl) (.cons ?_ .nil)).agg
  refine .sl (c := ofL (([] ++ flat (lkG a b) n 0) ++ [.int .i64 d, .int .i64 e]) 0) hq hb (fun h => by cases h) hcap (fun j hj => rfl) fun j hj k v hv => ?_
  have hk : k < 2 := (List.getElem?_eq_some_iff.1 hv).1
  refine ⟨?_, lk_bare _ _ j v (List.mem_of_getElem? hv)⟩
  rw [Nat.zero_add]
  refine get_ofL0 ?_
  rw [List.nil_append]
  have hl := flat2_len (lk_len a b) n 0
  by_cases h1 : j < n
  · rw [List.getElem?_append_left (by rw [hl]; omega), flat2_at (lk_len a b) n 0 j k h1 hk, Nat.zero_add]
    have e1 : lkG (nxF a n d) (nxF b n e) j = lkG a b j := by unfold lkG nxF; rw [if_pos h1, if_pos h1]
    rw [← e1]; exact hv
  · have e0 : j = n := by omega
    subst e0
    rw [List.getElem?_append_right (by rw [hl]; omega), hl, show j * 2 + k - j * 2 = k by omega]
    have e1 : lkG (nxF a j d) (nxF b j e) j = [.int .i64 d, .int .i64 e] := by unfold lkG nxF; rw [if_neg h1, if_neg h1]
    rw [← e1]; exact hv
section
variable {D n : Nat} {a b a' b' : Nat → Int}
theorem cn_one (h : ∀ i, i < n → a' i = a i ∧ b' i = b i) (c : C4) : cnC (n + 1) a' b' c = cnC n a b c + (if psF (f4 c) a' b' n = true then 1 else 0) := by
  show cnF (psF (f4 c) a' b') n + _ = _
  rw [cnF_congr (q := psF (f4 c) a b) n fun i hi => by unfold psF; rw [(h i hi).1, (h i hi).2]]
  rfl
/-- Most with one sighting more: no less, and at most one more. -/
theorem one_less (hD : D ≤ 3) (l : Lg n a b) (l' : Lg (n + 1) a' b') (h : ∀ i, i < n → a' i = a i ∧ b' i = b i) (h0 : mpS D n a b (2 ^ n) ≠ []) :
    mpS D (n + 1) a' b' (2 ^ (n + 1)) ≠ [] ∧ mxC (cnC n a b) (prQ (mpS D n a b (2 ^ n))) ≤ mxC (cnC (n + 1) a' b') (prQ (mpS D (n + 1) a' b' (2 ^ (n + 1)))) ∧ mxC (cnC (n + 1) a' b') (prQ (mpS D (n + 1) a' b' (2 ^ (n + 1)))) ≤ mxC (cnC n a b) (prQ (mpS D n a b (2 ^ n))) + 1 := by
  have hi := fun c => mpS_iff (c := c) hD l
  have hi' := fun c => mpS_iff (c := c) hD l'
  generalize mpS D n a b (2 ^ n) = L at *
  generalize mpS D (n + 1) a' b' (2 ^ (n + 1)) = L' at *
  have hc := fun c => cn_one h c
  obtain ⟨x, hx, h1⟩ := mx_at (cn := cnC n a b) h0
  obtain ⟨x1, x2⟩ := (hi x).1 hx
  have hx' : x ∈ L' := (hi' x).2 ⟨x1, by have := hc x; omega⟩
  have h0' : L' ≠ [] := fun e => by rw [e] at hx'; cases hx'
  have h2 := mx_ge (cn := cnC (n + 1) a' b') hx'
  obtain ⟨y, hy, h3⟩ := mx_at (cn := cnC (n + 1) a' b') h0'
  obtain ⟨y1, y2⟩ := (hi' y).1 hy
  have hcx := hc x
  have hcy := hc y
  have hone : (if psF (f4 y) a' b' n = true then 1 else 0) ≤ 1 := by split <;> omega
  refine ⟨h0', by omega, ?_⟩
  by_cases h4 : D + 1 ≤ cnC n a b y
  · have h5 := mx_ge (cn := cnC n a b) ((hi y).2 ⟨y1, h4⟩)
    omega
  · omega
/-- A sighting that is put onto a best path. -/
theorem one_more (hD : D ≤ 3) (l : Lg n a b) (l' : Lg (n + 1) a' b') (h : ∀ i, i < n → a' i = a i ∧ b' i = b i) (h0 : mpS D n a b (2 ^ n) ≠ []) {g : Nat → Int} (hg : ∀ k, D < k → g k = 0) (hM : cnF (psF g a b) n = mxC (cnC n a b) (prQ (mpS D n a b (2 ^ n)))) (hp : psF g a' b' n = true) :
    mpS D (n + 1) a' b' (2 ^ (n + 1)) ≠ [] ∧ mxC (cnC (n + 1) a' b') (prQ (mpS D (n + 1) a' b' (2 ^ (n + 1)))) = mxC (cnC n a b) (prQ (mpS D n a b (2 ^ n))) + 1 := by
  obtain ⟨h1, h2, h3⟩ := one_less hD l l' h h0
  refine ⟨h1, ?_⟩
  obtain ⟨x, hx, hxm⟩ := mx_at (cn := cnC n a b) h0
  have hx2 := ((mpS_iff hD l).1 hx).2
  have e1 : psF (f4 (c4 g)) = psF g := funext fun a => funext fun b => psF_congr fun k hk => f4_at hk
  have hcg := cn_one h (c4 g)
  rw [e1, if_pos hp] at hcg
  have e2 : cnC n a b (c4 g) = mxC (cnC n a b) (prQ (mpS D n a b (2 ^ n))) := by rw [cnC_eq]; exact hM
  have hm : c4 g ∈ mpS D (n + 1) a' b' (2 ^ (n + 1)) := (mpS_iff hD l').2 ⟨fun k h1 h2 => by rw [f4_at h2]; exact hg k h1, by omega⟩
  have h4 := mx_ge (cn := cnC (n + 1) a' b') hm
  omega
end
end Go.Proofs.K
namespace Go.Proofs.K
open Go.As
set_option maxRecDepth 20000
set_option linter.unusedVariables false
set_option linter.unusedSimpArgs false
/-- What Most answers for both logs. -/
theorem more_facts (d : Nat) (hd : d ≤ 3) (n : Nat) (a b : Nat → Int) (hv : ckL d (n + 1) a b = 0) :
    ∃ m e m' e' : Int, (e = 0 ∨ e = 23) ∧ (e' = 0 ∨ e' = 23) ∧ (0 ≤ m' ∧ m' ≤ 12) ∧ (e' = 0 → e = 0 ∧ m' ≤ m ∧ m ≤ m' + 1) ∧
      (∀ h ex, CallOk Try.prog 29 [lgV d ex (n + 1) a b] h (.tup [.int .i64 m, .int .i64 e]) h) ∧ (∀ k, k = n → ∀ h ex, CallOk Try.prog 29 [lgV d ex k a b] h (.tup [.int .i64 m', .int .i64 e']) h) ∧
      (e = 0 → 0 ≤ m ∧ m ≤ 12 ∧ ∃ g : Nat → Int, Sm 700000000000 4 g ∧ (∀ h, CallOk Try.prog 35 [lgV d false (n + 1) a b] h (.tup [.rsl false 1 (d + 1) (iG g), .int .i64 0]) h) ∧
        ∀ x y : Int, ckL d (n + 1 + 1) (nxF a (n + 1) x) (nxF b (n + 1) y) = 0 → plc g x.toNat (d + 1) = y → ∀ h, CallOk Try.prog 29 [lgV d false (n + 1 + 1) (nxF a (n + 1) x) (nxF b (n + 1) y)] h (.tup [.int .i64 (m + 1), .int .i64 0]) h) := by
  have l := (ckL_lg hv).2
  have l1 : Lg n a b := ⟨by have := l.le; omega, fun i hi => l.rg i (by omega), fun i j hi hj => l.up i j (by omega) hj, fun i hi => l.at' i (by omega)⟩
  have hv1 : ckL d n a b = 0 := ckL_of (ckL_lg hv).1 l1
  have kM := fun h ex => mostP_ok h d hd ex (n + 1) a b hv
  have kM1 := fun h ex => mostP_ok h d hd ex n a b hv1
  by_cases h1 : mpS d (n + 1) a b (2 ^ (n + 1)) = []
  · have h0 : mpS d n a b (2 ^ n) = [] := Classical.byContradiction fun h => (one_less hd l1 l (fun i _ => ⟨rfl, rfl⟩) h).1 h1
    rw [h1] at kM
    rw [h0] at kM1
    exact ⟨0, 23, 0, 23, .inr rfl, .inr rfl, by omega, fun h => absurd h (by decide), kM, fun k hk => by subst hk; exact kM1, fun h => absurd h (by decide)⟩
  · obtain ⟨c, q, e1⟩ := List.exists_cons_of_ne_nil h1
    obtain ⟨g, g1, g2, g3, g4, g5, kP⟩ := path_facts d hd false (n + 1) a b hv e1
    have hmore : ∀ x y : Int, ckL d (n + 1 + 1) (nxF a (n + 1) x) (nxF b (n + 1) y) = 0 → plc g x.toNat (d + 1) = y → ∀ h, CallOk Try.prog 29 [lgV d false (n + 1 + 1) (nxF a (n + 1) x) (nxF b (n + 1) y)] h (.tup [.int .i64 (((mxC (cnC (n + 1) a b) (prQ (c :: q)) : Nat) : Int) + 1), .int .i64 0]) h := fun x y hv2 hp h => by
      have hM := g3
      rw [← e1] at hM
      obtain ⟨h3, h4⟩ := one_more hd l (ckL_lg hv2).2 (fun i hi => by unfold nxF; rw [if_pos hi, if_pos hi]; exact ⟨rfl, rfl⟩) h1 g2 hM (by
        rw [psF_at]
        unfold nxF
        rw [if_neg (Nat.lt_irrefl _), if_neg (Nat.lt_irrefl _), plc_z (m := d + 1) (by omega) fun k hk _ => g2 k (by omega)]
        exact hp)
      have k := mostP_ok h d hd false (n + 1 + 1) _ _ hv2
      obtain ⟨c', q', e2⟩ := List.exists_cons_of_ne_nil h3
      rw [e1, e2] at h4
      rw [e2] at k
      dsimp only at k
      rw [h4] at k
      exact k
    have h12 := l.le
    rw [e1] at kM
    dsimp only at kM
    by_cases h0 : mpS d n a b (2 ^ n) = []
    · rw [h0] at kM1
      exact ⟨((mxC (cnC (n + 1) a b) (prQ (c :: q)) : Nat) : Int), 0, 0, 23, .inl rfl, .inr rfl, by omega, fun h => absurd h (by decide), kM, fun k hk => by subst hk; exact kM1, fun _ => ⟨by omega, by omega, g, g1, kP, hmore⟩⟩
    · obtain ⟨_, h5, h6⟩ := one_less hd l1 l (fun i _ => ⟨rfl, rfl⟩) h0
      obtain ⟨c', q', e2⟩ := List.exists_cons_of_ne_nil h0
      rw [e1, e2] at h5 h6
      rw [e2] at kM1
      dsimp only at kM1
      exact ⟨((mxC (cnC (n + 1) a b) (prQ (c :: q)) : Nat) : Int), 0, ((mxC (cnC n a b) (prQ (c' :: q')) : Nat) : Int), 0, .inl rfl, .inl rfl, by omega, fun _ => ⟨rfl, by omega, by omega⟩, kM, fun k hk => by subst hk; exact kM1, fun _ => ⟨by omega, by omega, g, g1, kP, hmore⟩⟩
end Go.Proofs.K
namespace Go.Proofs.K
open Go.As
set_option maxRecDepth 20000
set_option linter.unusedVariables false
set_option linter.unusedSimpArgs false
set_option maxHeartbeats 16000000 in
theorem lawMore (h : As.H) (D : Int) (n : Nat) (a b : Nat → Int) (hn : n ≤ 9223372036854775807) (w : Int) (hw : 0 ≤ w ∧ w ≤ 255) :
    CallOk Try.prog 12 [lgV D false n a b, .int .u8 w] h (.bool true) h := by
  have kWk := fun h : As.H => wwhole.everywhere rfl h
  have kR := fun h' => checkLogR_ok h' D false n a b hn
  by_cases hg : 20 < n
  · refine CallOk.run0 Try.func12 rfl rfl rfl rfl rfl (WpR.of_vc ?_)
    (conv => whnf); (repeat' (first | ((with_reducible refine ifb_mk (fun hc => ?_) (fun hc => ?_)) <;> ((try simp only [decide_eq_true_eq, decide_eq_false_iff_not, Bool.not_eq_true', Bool.not_eq_false', Int.not_lt, Int.not_le, ne_eq, Decidable.not_not, beq_iff_eq, List.cons.injEq, and_true] at hc); (first | (exfalso; omega) | exact absurd True.intro hc | conv => whnf))) | ((with_reducible refine And.intro True.intro ?_); conv => whnf) | ((with_reducible refine CallX.all ?_); refine CallW.of_ok (kWk _) ?_; conv => whnf) | ((with_reducible refine CallX.all (f := 40) ?_); refine CallW.inline Try.func40 rfl rfl (Nat.le_of_ble_eq_true rfl) (WpR.of_vc ?_); conv => whnf) | ((with_reducible refine CallX.all (f := 22) ?_); refine CallW.inline Try.func22 rfl rfl (Nat.le_of_ble_eq_true rfl) (WpR.of_vc ?_); conv => whnf) | ((with_reducible refine WpR.draw (id := 4) mixed [0, 1, 2, 3, 4, 5, 6, 7, 8, 9] [0, 1, 0, 4, 0, 16, 60, 127, 0, 511] ?hh ?_); (case hh => kernel_rfl); conv => whnf) | ((with_reducible refine WpR.draw (id := 19) mixed [0, 1, 2, 3, 4, 6, 7, 8, 9, 12, 5, 10, 11, 13] [0, 1, 0, 0, 8, 28, 0, 0, 192, 448, 1020, 2047, 0, 8191] ?hh ?_); (case hh => kernel_rfl); conv => whnf) | ((with_reducible refine And.intro ?hh ?_); (case hh => exact condA); conv => whnf) | fail))
    all_goals first | (refine ⟨[], ?_, rfl, rfl, trivial, trivs⟩; simp only [renV, renL]; (first | done | rfl | (simp; done) | (simp; omega) | grind)) | (exfalso; omega)
  by_cases hv : ckL D n a b = 0
  rotate_left
  · generalize ckL D n a b = c at *
    refine CallOk.run0 Try.func12 rfl rfl rfl rfl rfl (WpR.of_vc ?_)
    (conv => whnf); (repeat' (first | ((with_reducible refine ifb_mk (fun hc => ?_) (fun hc => ?_)) <;> ((try simp only [decide_eq_true_eq, decide_eq_false_iff_not, Bool.not_eq_true', Bool.not_eq_false', Int.not_lt, Int.not_le, ne_eq, Decidable.not_not, beq_iff_eq, List.cons.injEq, and_true] at hc); (first | (exfalso; omega) | exact absurd True.intro hc | conv => whnf))) | ((with_reducible refine And.intro True.intro ?_); conv => whnf) | ((with_reducible refine CallX.all ?_); refine CallW.of_ok (kWk _) ?_; conv => whnf) | ((with_reducible refine CallX.all ?_); refine CallW.of_ok (kR _) ?_; conv => whnf) | ((with_reducible refine grd_ex ?_); refine ex_ok (kR _) ?_; conv => whnf) | ((with_reducible refine CallX.all (f := 40) ?_); refine CallW.inline Try.func40 rfl rfl (Nat.le_of_ble_eq_true rfl) (WpR.of_vc ?_); conv => whnf) | ((with_reducible refine CallX.all (f := 22) ?_); refine CallW.inline Try.func22 rfl rfl (Nat.le_of_ble_eq_true rfl) (WpR.of_vc ?_); conv => whnf) | ((with_reducible refine WpR.draw (id := 4) mixed [0, 1, 2, 3, 4, 5, 6, 7, 8, 9] [0, 1, 0, 4, 0, 16, 60, 127, 0, 511] ?hh ?_); (case hh => kernel_rfl); conv => whnf) | ((with_reducible refine WpR.draw (id := 19) mixed [0, 1, 2, 3, 4, 6, 7, 8, 9, 12, 5, 10, 11, 13] [0, 1, 0, 0, 8, 28, 0, 0, 192, 448, 1020, 2047, 0, 8191] ?hh ?_); (case hh => kernel_rfl); conv => whnf) | ((with_reducible refine And.intro ?hh ?_); (case hh => exact condA); conv => whnf) | fail))
    all_goals first | (refine ⟨[], ?_, rfl, rfl, trivial, trivs⟩; simp only [renV, renL]; (first | done | rfl | (simp; done) | (simp; omega) | grind)) | (exfalso; omega)
  obtain ⟨hD, l⟩ := ckL_lg hv
  obtain ⟨d, rfl⟩ : ∃ d : Nat, D = (d : Int) := ⟨D.toNat, by omega⟩
  have hd3 : d ≤ 3 := by omega
  by_cases h0 : n = 0
  · subst h0
    rw [hv] at kR
    refine CallOk.run0 Try.func12 rfl rfl rfl rfl rfl (WpR.of_vc ?_)
    (conv => whnf); (repeat' (first | ((with_reducible refine ifb_mk (fun hc => ?_) (fun hc => ?_)) <;> ((try simp only [decide_eq_true_eq, decide_eq_false_iff_not, Bool.not_eq_true', Bool.not_eq_false', Int.not_lt, Int.not_le, ne_eq, Decidable.not_not, beq_iff_eq, List.cons.injEq, and_true] at hc); (first | (exfalso; omega) | exact absurd True.intro hc | conv => whnf))) | ((with_reducible refine And.intro True.intro ?_); conv => whnf) | ((with_reducible refine CallX.all ?_); refine CallW.of_ok (kWk _) ?_; conv => whnf) | ((with_reducible refine CallX.all ?_); refine CallW.of_ok (kR _) ?_; conv => whnf) | ((with_reducible refine grd_ex ?_); refine ex_ok (kR _) ?_; conv => whnf) | ((with_reducible refine CallX.all (f := 40) ?_); refine CallW.inline Try.func40 rfl rfl (Nat.le_of_ble_eq_true rfl) (WpR.of_vc ?_); conv => whnf) | ((with_reducible refine CallX.all (f := 22) ?_); refine CallW.inline Try.func22 rfl rfl (Nat.le_of_ble_eq_true rfl) (WpR.of_vc ?_); conv => whnf) | ((with_reducible refine WpR.draw (id := 4) mixed [0, 1, 2, 3, 4, 5, 6, 7, 8, 9] [0, 1, 0, 4, 0, 16, 60, 127, 0, 511] ?hh ?_); (case hh => kernel_rfl); conv => whnf) | ((with_reducible refine WpR.draw (id := 19) mixed [0, 1, 2, 3, 4, 6, 7, 8, 9, 12, 5, 10, 11, 13] [0, 1, 0, 0, 8, 28, 0, 0, 192, 448, 1020, 2047, 0, 8191] ?hh ?_); (case hh => kernel_rfl); conv => whnf) | ((with_reducible refine And.intro ?hh ?_); (case hh => exact condA); conv => whnf) | fail))
    all_goals first | (refine ⟨[], ?_, rfl, rfl, trivial, trivs⟩; simp only [renV, renL]; (first | done | rfl | (simp; done) | (simp; omega) | grind)) | (exfalso; omega)
  obtain ⟨n, rfl⟩ : ∃ k, n = k + 1 := ⟨n - 1, by omega⟩
  clear h0
  have hn12 := l.le
  have hal := l.rg n (by omega)
  obtain ⟨m, e, m', e', o1, o2, ob, o3, kM, kM1, kE⟩ := more_facts d hd3 n a b hv
  have kM1' : ∀ k, k = n → ∀ (h : As.H) ex, CallOk Try.prog 29 [.agg [.int .i64 d, .rsl ex 2 k (fun i => lkG a b (0 + i))]] h (.tup [.int .i64 m', .int .i64 e']) h := fun k hk h ex => by
    have e : (fun i => lkG a b (0 + i)) = lkG a b := funext fun i => by rw [Nat.zero_add]
    rw [e]
    exact kM1 k hk h ex
  rw [hv] at kR
  have hfl := flat2_len (lk_len a b) (n + 1) 0
  have hfo := flat_one a b (n + 1)
  have kad := fun h' ex => added_lk h' ex (n + 1) a b
  by_cases hc : e = 0 ∧ a n < 60 ∧ n + 1 < 12
  rotate_left
  · clear kE
    rcases o1 with rfl | rfl <;> rcases o2 with rfl | rfl
    all_goals
      refine CallOk.run0 Try.func12 rfl rfl rfl rfl rfl (WpR.of_vc ?_)
      (conv => whnf); (repeat' (first | ((with_reducible refine ifb_mk (fun hc => ?_) (fun hc => ?_)) <;> ((try simp only [decide_eq_true_eq, decide_eq_false_iff_not, Bool.not_eq_true', Bool.not_eq_false', Int.not_lt, Int.not_le, ne_eq, Decidable.not_not, beq_iff_eq, List.cons.injEq, and_true] at hc); (first | (exfalso; omega) | exact absurd True.intro hc | conv => whnf))) | ((with_reducible refine And.intro True.intro ?_); conv => whnf) | ((with_reducible refine CallX.all ?_); refine CallW.of_ok (kWk _) ?_; conv => whnf) | ((with_reducible refine CallX.all ?_); refine CallW.of_ok (kR _) ?_; conv => whnf) | ((with_reducible refine grd_ex ?_); refine ex_ok (kR _) ?_; conv => whnf) | ((with_reducible refine CallX.all ?_); refine CallW.of_ok (kM _ _) ?_; conv => whnf) | ((with_reducible refine CallX.all ?_); refine CallW.of_ok (kM1' _ (by omega) _ _) ?_; conv => whnf) | (((with_reducible refine idxP_mk (k := n) ?hh ?_); (case hh => omega)); conv => whnf) | ((with_reducible refine CallX.all (f := 40) ?_); refine CallW.inline Try.func40 rfl rfl (Nat.le_of_ble_eq_true rfl) (WpR.of_vc ?_); conv => whnf) | ((with_reducible refine CallX.all (f := 22) ?_); refine CallW.inline Try.func22 rfl rfl (Nat.le_of_ble_eq_true rfl) (WpR.of_vc ?_); conv => whnf) | ((with_reducible refine WpR.draw (id := 4) mixed [0, 1, 2, 3, 4, 5, 6, 7, 8, 9] [0, 1, 0, 4, 0, 16, 60, 127, 0, 511] ?hh ?_); (case hh => kernel_rfl); conv => whnf) | ((with_reducible refine WpR.draw (id := 19) mixed [0, 1, 2, 3, 4, 6, 7, 8, 9, 12, 5, 10, 11, 13] [0, 1, 0, 0, 8, 28, 0, 0, 192, 448, 1020, 2047, 0, 8191] ?hh ?_); (case hh => kernel_rfl); conv => whnf) | ((with_reducible refine And.intro ?hh ?_); (case hh => exact condA); conv => whnf) | fail))
      all_goals first | (refine ⟨[], ?_, rfl, rfl, trivial, trivs⟩; simp only [renV, renL]; (first | done | rfl | (simp; done) | (simp; omega) | grind)) | (exfalso; omega)
  obtain ⟨rfl, hx1, hx2⟩ := hc
  obtain ⟨hm0, hm1, g, g1, kP, hE⟩ := kE rfl
  clear kE o1 hv
  have hpos : (60 : Int) - a n ≠ 0 := by omega
  obtain ⟨r, er, hr⟩ : ∃ r : Nat, (IntKind.i64.wrap w).tmod (60 - a n) = r ∧ (r : Int) < 60 - a n := by
    rw [u8w hw, Int.tmod_eq_emod_of_nonneg hw.1]
    have h1 := Int.emod_nonneg w (b := 60 - a n) (by omega)
    have h2 := Int.emod_lt_of_pos w (b := 60 - a n) (by omega)
    exact ⟨(w % (60 - a n)).toNat, by omega, by omega⟩
  have y1 : InR ((IntKind.i64.wrap w).tmod (60 - a n)) := by rw [er]; unfold InR; omega
  have y2 : InR (60 - a n) := by unfold InR; omega
  have y3 : InR (a n + 1) := by unfold InR; omega
  have y4 : InR (a n + 1 + (IntKind.i64.wrap w).tmod (60 - a n)) := by rw [er]; unfold InR; omega
  obtain ⟨x, ex, hx0, hx60⟩ : ∃ x : Nat, a n + 1 + (IntKind.i64.wrap w).tmod (60 - a n) = x ∧ a n < x ∧ x ≤ 60 := by
    rw [er]
    exact ⟨(a n + 1 + r).toNat, by omega, by omega, by omega⟩
  have hgb : ∀ i, i < d + 1 → -1099511627776 ≤ g i ∧ g i ≤ 1099511627776 := fun i hi => by have := g1 i (by omega); omega
  have k1 : ∀ h' : As.H, CallOk Try.prog 47 [.rsl false 1 (d + 1) (iG g)] h' (.int .i64 0) h' := fun h' => by
    have k := isPath_ok h' (d + 1) g false (by omega)
    have c : ckP (d + 1) g = 0 := by
      unfold ckP
      rw [if_pos (by omega), if_pos (wiR_t hgb)]
    rw [c] at k
    exact k
  have k2 : ∀ h' : As.H, CallOk Try.prog 17 [.rsl false 1 (d + 1) (iG g), .int .i64 (a n + 1 + (IntKind.i64.wrap w).tmod (60 - a n))] h' (.tup [.int .i64 (plc g x (d + 1)), .int .i64 0]) h' := fun h' => by
    have k := at_ok h' false (d + 1) g x (by omega)
    have c := ckC_0 (m := d + 1) (a := g) (d := x) (by omega) hgb (by omega)
    unfold atP at k
    rw [c, if_pos rfl, show (x : Int).toNat = x from rfl, ← ex] at k
    exact k
  have k3 : ∀ h' : As.H, CallOk Try.prog 45 [.rsl false 1 (d + 1) (iG g), .int .i64 (a n + 1 + (IntKind.i64.wrap w).tmod (60 - a n))] h' (.int .i64 (plc g x (d + 1))) h' := fun h' => by
    have k := atOf_ok h' false (d + 1) g x (by omega) (by omega) fun k hk => by have := g1 k (by omega); omega
    rw [← ex] at k
    exact k
  have hth : ∀ (h' : As.H) bb mm cap exx gg (hm : mm = n + 1 + 1) (hcap : mm ≤ cap) (hb : h'.get bb = some (.cells (ofL (([] ++ flat (lkG a b) (n + 1) 0) ++ [.int .i64 (a n + 1 + (IntKind.i64.wrap w).tmod (60 - a n)), .int .i64 (plc g x (d + 1))]) 0) true gg)), Th h' (fun _ => True) (lgV d false (n + 1 + 1) (nxF a (n + 1) (a n + 1 + (IntKind.i64.wrap w).tmod (60 - a n))) (nxF b (n + 1) (plc g x (d + 1)))) (.agg [.int .i64 d, .sl bb 0 mm cap exx]) := fun h' bb mm cap exx gg hm hcap hb => th_more hm hcap trivial hb
  have hE := hE (a n + 1 + (IntKind.i64.wrap w).tmod (60 - a n)) (plc g x (d + 1))
  rw [show (a n + 1 + (IntKind.i64.wrap w).tmod (60 - a n)).toNat = x by omega] at hE
  have kR2 := checkLogR_ok As.H.empty d false (n + 1 + 1) (nxF a (n + 1) (a n + 1 + (IntKind.i64.wrap w).tmod (60 - a n))) (nxF b (n + 1) (plc g x (d + 1))) (by omega)
  have kR2' := fun (h' : As.H) bb mm cap exx gg hm hcap hb => CallOk.thaw kR2 rfl h' (.cons (hth h' bb mm cap exx gg hm hcap hb) .nil)
  have kM2' := fun hv2 (h' : As.H) bb mm cap exx gg hm hcap hb => CallOk.thaw (hE hv2 rfl As.H.empty) rfl h' (.cons (hth h' bb mm cap exx gg hm hcap hb) .nil)
  clear kR2 hE hth kM1
  have kP' := kP
  have hfl' : ([] ++ flat (lkG a b) (n + 1) 0).length = (0 + (n + 1)) * 2 := by rw [List.nil_append, hfl]; omega
  by_cases hv2 : ckL d (n + 1 + 1) (nxF a (n + 1) (a n + 1 + (IntKind.i64.wrap w).tmod (60 - a n))) (nxF b (n + 1) (plc g x (d + 1))) = 0
  · have kM2' := kM2' hv2
    rw [hv2] at kR2'
    clear hv2
    generalize plc g x (d + 1) = at0 at *
    rcases o2 with rfl | rfl
    all_goals
      refine CallOk.run0 Try.func12 rfl rfl rfl rfl rfl (WpR.of_vc ?_)
      (conv => whnf); (repeat' (first | ((with_reducible refine ifb_mk (fun hc => ?_) (fun hc => ?_)) <;> ((try simp only [decide_eq_true_eq, decide_eq_false_iff_not, Bool.not_eq_true', Bool.not_eq_false', Int.not_lt, Int.not_le, ne_eq, Decidable.not_not, beq_iff_eq, List.cons.injEq, and_true] at hc); (first | (exfalso; omega) | exact absurd True.intro hc | conv => whnf))) | ((with_reducible refine And.intro True.intro ?_); conv => whnf) | ((with_reducible refine grd_and ?_); refine And.intro (y1) ?_; conv => whnf) | ((with_reducible refine grd_and ?_); refine And.intro (y2) ?_; conv => whnf) | ((with_reducible refine grd_and ?_); refine And.intro (y3) ?_; conv => whnf) | ((with_reducible refine grd_and ?_); refine And.intro (y4) ?_; conv => whnf) | ((with_reducible refine grd_and ?_); refine And.intro (hpos) ?_; conv => whnf) | ((with_reducible refine CallX.all ?_); refine CallW.of_ok (kWk _) ?_; conv => whnf) | ((with_reducible refine grd_ex ?_); refine ex_ok (kWk _) ?_; conv => whnf) | ((with_reducible refine CallX.all ?_); refine CallW.of_ok (kR _) ?_; conv => whnf) | ((with_reducible refine grd_ex ?_); refine ex_ok (kR _) ?_; conv => whnf) | ((with_reducible refine CallX.all ?_); refine CallW.of_ok (kM _ _) ?_; conv => whnf) | ((with_reducible refine CallX.all ?_); refine CallW.of_ok (kM1' _ (by omega) _ _) ?_; conv => whnf) | ((with_reducible refine CallX.all ?_); refine CallW.of_ok (kP' _) ?_; conv => whnf) | ((with_reducible refine CallX.all ?_); refine CallW.of_ok (k1 _) ?_; conv => whnf) | ((with_reducible refine grd_ex ?_); refine ex_ok (k1 _) ?_; conv => whnf) | ((with_reducible refine CallX.all ?_); refine CallW.of_ok (k2 _) ?_; conv => whnf) | ((with_reducible refine CallX.all ?_); refine CallW.of_ok (k3 _) ?_; conv => whnf) | ((with_reducible refine grd_ex ?_); refine ex_ok (k3 _) ?_; conv => whnf) | (((with_reducible refine idxP_mk (k := n) ?hh ?_); (case hh => omega)); conv => whnf) | (refine som_mk (kad _ _) ?_; conv => whnf) | (refine AppX.copy (n := n + 1) (len := 0) (L := []) rfl rfl rfl (Nat.succ_pos _) (by omega) ?_; conv => whnf) | (refine AppX.own (n := 1) (L := [] ++ flat (lkG a b) (n + 1) 0) (len := 0 + (n + 1)) rfl hfl' hfo Nat.zero_lt_one (by omega) ?_; conv => whnf) | ((with_reducible refine CallX.all ?_); refine CallW.of_ok (kR2' _ _ _ _ _ _ (by omega) (by omega) rfl) ?_; conv => whnf) | ((with_reducible refine grd_ex ?_); refine ex_ok (kR2' _ _ _ _ _ _ (by omega) (by omega) rfl) ?_; conv => whnf) | ((with_reducible refine CallX.all ?_); refine CallW.of_ok (kM2' _ _ _ _ _ _ (by omega) (by omega) rfl) ?_; conv => whnf) | ((with_reducible refine CallX.all (f := 40) ?_); refine CallW.inline Try.func40 rfl rfl (Nat.le_of_ble_eq_true rfl) (WpR.of_vc ?_); conv => whnf) | ((with_reducible refine CallX.all (f := 22) ?_); refine CallW.inline Try.func22 rfl rfl (Nat.le_of_ble_eq_true rfl) (WpR.of_vc ?_); conv => whnf) | ((with_reducible refine WpR.draw (id := 4) mixed [0, 1, 2, 3, 4, 5, 6, 7, 8, 9] [0, 1, 0, 4, 0, 16, 60, 127, 0, 511] ?hh ?_); (case hh => kernel_rfl); conv => whnf) | ((with_reducible refine WpR.draw (id := 19) mixed [0, 1, 2, 3, 4, 6, 7, 8, 9, 12, 5, 10, 11, 13] [0, 1, 0, 0, 8, 28, 0, 0, 192, 448, 1020, 2047, 0, 8191] ?hh ?_); (case hh => kernel_rfl); conv => whnf) | ((with_reducible refine And.intro ?hh ?_); (case hh => exact condA); conv => whnf) | fail))
      all_goals first | (refine ⟨[], ?_, rfl, rfl, trivial, trivs⟩; simp only [renV, renL]; (first | done | rfl | (simp; done) | (simp; omega) | grind)) | (exfalso; omega)
  · clear kM2'
    generalize ckL d (n + 1 + 1) (nxF a (n + 1) (a n + 1 + (IntKind.i64.wrap w).tmod (60 - a n))) (nxF b (n + 1) (plc g x (d + 1))) = c' at *
    generalize plc g x (d + 1) = at0 at *
    rcases o2 with rfl | rfl
    all_goals
      refine CallOk.run0 Try.func12 rfl rfl rfl rfl rfl (WpR.of_vc ?_)
      (conv => whnf); (repeat' (first | ((with_reducible refine ifb_mk (fun hc => ?_) (fun hc => ?_)) <;> ((try simp only [decide_eq_true_eq, decide_eq_false_iff_not, Bool.not_eq_true', Bool.not_eq_false', Int.not_lt, Int.not_le, ne_eq, Decidable.not_not, beq_iff_eq, List.cons.injEq, and_true] at hc); (first | (exfalso; omega) | exact absurd True.intro hc | conv => whnf))) | ((with_reducible refine And.intro True.intro ?_); conv => whnf) | ((with_reducible refine grd_and ?_); refine And.intro (y1) ?_; conv => whnf) | ((with_reducible refine grd_and ?_); refine And.intro (y2) ?_; conv => whnf) | ((with_reducible refine grd_and ?_); refine And.intro (y3) ?_; conv => whnf) | ((with_reducible refine grd_and ?_); refine And.intro (y4) ?_; conv => whnf) | ((with_reducible refine grd_and ?_); refine And.intro (hpos) ?_; conv => whnf) | ((with_reducible refine CallX.all ?_); refine CallW.of_ok (kWk _) ?_; conv => whnf) | ((with_reducible refine grd_ex ?_); refine ex_ok (kWk _) ?_; conv => whnf) | ((with_reducible refine CallX.all ?_); refine CallW.of_ok (kR _) ?_; conv => whnf) | ((with_reducible refine grd_ex ?_); refine ex_ok (kR _) ?_; conv => whnf) | ((with_reducible refine CallX.all ?_); refine CallW.of_ok (kM _ _) ?_; conv => whnf) | ((with_reducible refine CallX.all ?_); refine CallW.of_ok (kM1' _ (by omega) _ _) ?_; conv => whnf) | ((with_reducible refine CallX.all ?_); refine CallW.of_ok (kP' _) ?_; conv => whnf) | ((with_reducible refine CallX.all ?_); refine CallW.of_ok (k1 _) ?_; conv => whnf) | ((with_reducible refine grd_ex ?_); refine ex_ok (k1 _) ?_; conv => whnf) | ((with_reducible refine CallX.all ?_); refine CallW.of_ok (k2 _) ?_; conv => whnf) | ((with_reducible refine CallX.all ?_); refine CallW.of_ok (k3 _) ?_; conv => whnf) | ((with_reducible refine grd_ex ?_); refine ex_ok (k3 _) ?_; conv => whnf) | (((with_reducible refine idxP_mk (k := n) ?hh ?_); (case hh => omega)); conv => whnf) | (refine som_mk (kad _ _) ?_; conv => whnf) | (refine AppX.copy (n := n + 1) (len := 0) (L := []) rfl rfl rfl (Nat.succ_pos _) (by omega) ?_; conv => whnf) | (refine AppX.own (n := 1) (L := [] ++ flat (lkG a b) (n + 1) 0) (len := 0 + (n + 1)) rfl hfl' hfo Nat.zero_lt_one (by omega) ?_; conv => whnf) | ((with_reducible refine CallX.all ?_); refine CallW.of_ok (kR2' _ _ _ _ _ _ (by omega) (by omega) rfl) ?_; conv => whnf) | ((with_reducible refine grd_ex ?_); refine ex_ok (kR2' _ _ _ _ _ _ (by omega) (by omega) rfl) ?_; conv => whnf) | ((with_reducible refine CallX.all (f := 40) ?_); refine CallW.inline Try.func40 rfl rfl (Nat.le_of_ble_eq_true rfl) (WpR.of_vc ?_); conv => whnf) | ((with_reducible refine CallX.all (f := 22) ?_); refine CallW.inline Try.func22 rfl rfl (Nat.le_of_ble_eq_true rfl) (WpR.of_vc ?_); conv => whnf) | ((with_reducible refine WpR.draw (id := 4) mixed [0, 1, 2, 3, 4, 5, 6, 7, 8, 9] [0, 1, 0, 4, 0, 16, 60, 127, 0, 511] ?hh ?_); (case hh => kernel_rfl); conv => whnf) | ((with_reducible refine WpR.draw (id := 19) mixed [0, 1, 2, 3, 4, 6, 7, 8, 9, 12, 5, 10, 11, 13] [0, 1, 0, 0, 8, 28, 0, 0, 192, 448, 1020, 2047, 0, 8191] ?hh ?_); (case hh => kernel_rfl); conv => whnf) | ((with_reducible refine And.intro ?hh ?_); (case hh => exact condA); conv => whnf) | fail))
      all_goals first | (refine ⟨[], ?_, rfl, rfl, trivial, trivs⟩; simp only [renV, renL]; (first | done | rfl | (simp; done) | (simp; omega) | grind)) | (exfalso; omega)
end Go.Proofs.K
