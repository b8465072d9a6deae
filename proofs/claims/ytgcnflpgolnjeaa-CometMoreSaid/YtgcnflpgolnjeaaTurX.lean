/- What the functions answer that the laws call, one after another (TurX). -/
import Derived.Test.YtgcnflpgolnjeaaB0
import Derived.Test.YtgcnflpgolnjeaaB7
import Derived.Test.YtgcnflpgolnjeaaTh
import Derived.Test.YtgcnflpgolnjeaaB10
import Derived.Test.YtgcnflpgolnjeaaBst
import Derived.Test.YtgcnflpgolnjeaaMst
import Derived.Test.YtgcnflpgolnjeaaBso
import Derived.Test.YtgcnflpgolnjeaaPth
import Derived.Test.YtgcnflpgolnjeaaKnd
import Derived.Test.YtgcnflpgolnjeaaChk
import Derived.Test.YtgcnflpgolnjeaaThr
import Derived.Test.YtgcnflpgolnjeaaLst
import Derived.Test.YtgcnflpgolnjeaaExa
import Derived.Test.YtgcnflpgolnjeaaWk
import Derived.Test.YtgcnflpgolnjeaaLeaX
import GoSem.Step
import Derived.KernelRfl
import Derived.Laws.World
import Derived.Laws.Sem
import Derived.Laws.Cells
import Derived.Laws.IdiomCopy
import Derived.Maps.RangeRun
import Derived.Laws.NewFold
import Derived.RangeFuncLeaves
import Derived.LoopNIn
import Derived.RangeFuncRecord
import Derived.OrdersIn
import Derived.ChangeSame
import Derived.Deep.Slices
import Derived.ReadAgain
import Derived.OpenShut
import Derived.Below
import Derived.WalkKit
import Derived.ProofKit
import Derived.Carry

set_option linter.unusedVariables false
/- The machine that the proof runs on, part 6 of 6: texts of my own, put together by program. No statement is proved here. -/

set_option linter.unusedVariables false
/- Calls carried out in a memory of their own, which hand back new memory. -/
/- Keys of maps; slices that grow; cells of lists. -/
namespace Go.As
/-! ### Equality of keys -/

end Go.As
/- Contracts. -/
/- Equality of structs and arrays of 64-bit numbers. -/
/- Memories of rounds: a call or a round goes on from one of them to another one. -/
/- Loops of few rounds, one round after another. -/
/- Regions that draw their order, but for the operations at their end, which come one after another in each order. -/
/- Slices that grow in a loop. -/
/- What nobody writes any more: what is handed back, taken for a value; the arguments of a law. -/
/- Lists that grow by appends, whatever their elements are; arrays that are filled. -/
namespace Go.As
section
variable {α : Type}
theorem gR_at {e : α → List V} {sz : Nat} (he : ∀ x, (e x).length = sz) : ∀ {l : List α} {i k : Nat} {x : α} {v : V}, l.reverse[i]? = some x → (e x)[k]? = some v → (gR e l)[i * sz + k]? = some v
  | [], i, k, x, v, h, _ => by simp at h
  | y :: l, i, k, x, v, h, hk => by
    show (gR e l ++ e y)[i * sz + k]? = _
    have hks : k < sz := by have := (List.getElem?_eq_some_iff.1 hk).1; rwa [he] at this
    have hl : l.reverse.length = l.length := List.length_reverse
    rw [List.reverse_cons] at h
    by_cases hi : i < l.length
    · rw [List.getElem?_append_left (by rw [hl]; exact hi)] at h
      have := gR_at he h hk
      rw [List.getElem?_append_left ((List.getElem?_eq_some_iff.1 this).1)]
      exact this
    · have hlt := (List.getElem?_eq_some_iff.1 h).1
      rw [List.length_append, hl, List.length_singleton] at hlt
      have hi' : i = l.length := by omega
      subst hi'
      rw [List.getElem?_append_right (by rw [hl]; omega), hl, Nat.sub_self] at h
      have hx : y = x := by simpa using h
      subst hx
      have hg := gR_len he l
      rw [List.getElem?_append_right (by omega), hg, show l.length * sz + k - l.length * sz = k from by omega]
      exact hk

end
end Go.As
/- A closed run whose answer tells of new blocks, known in every memory. -/
/- Calls that write to some blocks of the memory, where they are: known in a memory of these alone. -/
set_option linter.unusedVariables false
namespace Go.Proofs.K
open Go.As
set_option maxRecDepth 20000
set_option linter.unusedVariables false
set_option linter.unusedSimpArgs false
/-! ### Is a sighting wrong? -/

theorem bestO_e (h : As.H) (x : Nat) (sv : V) (hsl : SlC h (iVs [(x : Int)]) 1 sv) (D : Nat) (hD : D ≤ 3) (ex : Bool) (n : Nat) (a b : Nat → Int) (hv : ckL D n a b = 0) (hx : x < n) (hF : mpS D n a b (2 ^ n) = []) : CallOk Try.prog 70 [lgV D ex n a b, sv] h (.tup [.nilp, .int .i64 23]) h := by
  have := bestO_new h x sv hsl D hD ex n a b hv (ckL_lg hv).2 hx
  rw [hF] at this
  exact this
theorem kindP_none (h : As.H) (D : Nat) (hD : D ≤ 3) (ex : Bool) (n : Nat) (a b : Nat → Int) (hv : ckL D n a b = 0) (x : Nat) (hx : x < n) (hF : mpS D n a b (2 ^ n) = []) :
    CallOk Try.prog 33 [lgV D ex n a b, .int .i64 x] h (.tup [.int .i64 0, .int .i64 23]) h := by
  have kB := fun (h' : As.H) sv hsl => bestO_e h' x sv hsl D hD ex n a b hv hx hF
  refine CallOk.run0 Try.func33 rfl rfl rfl rfl rfl (WpR.of_vc ?_)
  (conv => whnf); (repeat' (first | ((with_reducible refine ifb_mk (fun hc => ?_) (fun hc => ?_)) <;> ((try simp only [decide_eq_true_eq, decide_eq_false_iff_not, Bool.not_eq_true', Bool.not_eq_false', Int.not_lt, Int.not_le, ne_eq, Decidable.not_not, beq_iff_eq, List.cons.injEq, and_true] at hc); (first | (exfalso; omega) | exact absurd True.intro hc | conv => whnf))) | ((with_reducible refine And.intro True.intro ?_); conv => whnf) | ((with_reducible refine CallX.all ?_); refine CallW.of_ok (kB _ _ (SlC.own rfl)) ?_; conv => whnf) | ((with_reducible refine And.intro ?hh ?_); (case hh => exact condA); conv => whnf) | fail))
  all_goals first | (refine ⟨[], ?_, rfl, rfl, trivial, trivs⟩; simp only [renV, renL]; (first | done | rfl | (simp; done) | (simp; omega) | grind)) | (exfalso; omega)
end Go.Proofs.K
set_option linter.unusedVariables false
namespace Go.Proofs.K
open Go.As
set_option maxRecDepth 20000
set_option linter.unusedVariables false
set_option linter.unusedSimpArgs false
theorem u8w {x : Int} (h : 0 ≤ x ∧ x ≤ 255) : IntKind.i64.wrap x = x := wrap_in (inR_of (by unfold InR; omega))
end Go.Proofs.K
set_option linter.unusedVariables false
namespace Go.Proofs.K
open Go.As
set_option maxRecDepth 20000
set_option linter.unusedVariables false
set_option linter.unusedSimpArgs false
/-! ### Two logs whose paths are those of one another -/

theorem prQ_count (P : C4 → Bool) (q : List C4) : ((prQ q).filter fun e => P e.1).length = q.countP P := by
  rw [← List.countP_eq_length_filter]
  have h1 : (prQ q).countP (fun e => P e.1) = ((prQ q).map (·.1)).countP P := by rw [List.countP_map]; rfl
  rw [h1, prQ_keys, List.countP_reverse]
theorem bst_len (cn : C4 → Nat) (q : List C4) : (bstL cn (prQ q)).length = q.countP fun c => decide (cn c = mxC cn (prQ q)) := prQ_count (fun c => decide (cn c = mxC cn (prQ q))) q
theorem wr_len (cn : C4 → Nat) (a b : Nat → Int) (x : Nat) (q : List C4) : wrN a b x (bstL cn (prQ q)) = q.countP fun c => !psF (f4 c) a b x && decide (cn c = mxC cn (prQ q)) := by
  rw [← prQ_count (fun c => !psF (f4 c) a b x && decide (cn c = mxC cn (prQ q))) q]
  unfold wrN bstL
  rw [List.filter_filter]
/-- A map between the paths of two logs, there and back. -/
structure TwoL (D n : Nat) (a b a' b' : Nat → Int) (f g : C4 → C4) : Prop where
  fz : ∀ c, (∀ k, D < k → k < 4 → f4 c k = 0) → ∀ k, D < k → k < 4 → f4 (f c) k = 0
  gz : ∀ c, (∀ k, D < k → k < 4 → f4 c k = 0) → ∀ k, D < k → k < 4 → f4 (g c) k = 0
  fg : ∀ c, (∀ k, D < k → k < 4 → f4 c k = 0) → f (g c) = c
  gf : ∀ c, (∀ k, D < k → k < 4 → f4 c k = 0) → g (f c) = c
  cn : ∀ c, (∀ k, D < k → k < 4 → f4 c k = 0) → cnC n a' b' (f c) = cnC n a b c
section
variable {D n : Nat} {a b a' b' : Nat → Int} {f g : C4 → C4}
theorem TwoL.perm (hD : D ≤ 3) (l : Lg n a b) (l' : Lg n a' b') (t : TwoL D n a b a' b' f g) : (mpS D n a' b' (2 ^ n)).Perm ((mpS D n a b (2 ^ n)).map f) := by
  have hi := fun c => mpS_iff (c := c) hD l
  have hi' := fun c => mpS_iff (c := c) hD l'
  have hn := mpS_nodup D n a b (2 ^ n)
  have hn' := mpS_nodup D n a' b' (2 ^ n)
  generalize mpS D n a b (2 ^ n) = L at *
  generalize mpS D n a' b' (2 ^ n) = L' at *
  have hinj : (L.map f).Nodup := by
    rw [List.Nodup, List.pairwise_map]
    refine hn.imp_of_mem fun {x y} hx hy hne he => hne ?_
    rw [← t.gf x ((hi x).1 hx).1, ← t.gf y ((hi y).1 hy).1, he]
  rw [List.perm_ext_iff_of_nodup hn' hinj]
  intro c
  constructor
  · intro h
    obtain ⟨h1, h2⟩ := (hi' c).1 h
    refine List.mem_map.2 ⟨g c, (hi _).2 ⟨t.gz c h1, ?_⟩, t.fg c h1⟩
    rw [← t.cn _ (t.gz c h1), t.fg c h1]
    exact h2
  · intro h
    obtain ⟨x, hx, rfl⟩ := List.mem_map.1 h
    obtain ⟨h1, h2⟩ := (hi x).1 hx
    refine (hi' _).2 ⟨t.fz x h1, ?_⟩
    rw [t.cn x h1]
    exact h2
theorem TwoL.all (hD : D ≤ 3) (l : Lg n a b) (l' : Lg n a' b') (t : TwoL D n a b a' b' f g) :
    (mpS D n a b (2 ^ n) = [] ↔ mpS D n a' b' (2 ^ n) = []) ∧ mxC (cnC n a' b') (prQ (mpS D n a' b' (2 ^ n))) = mxC (cnC n a b) (prQ (mpS D n a b (2 ^ n))) ∧
    (bstL (cnC n a' b') (prQ (mpS D n a' b' (2 ^ n)))).length = (bstL (cnC n a b) (prQ (mpS D n a b (2 ^ n)))).length ∧
    ∀ x x', (∀ c, (∀ k, D < k → k < 4 → f4 c k = 0) → psF (f4 (f c)) a' b' x' = psF (f4 c) a b x) → wrN a' b' x' (bstL (cnC n a' b') (prQ (mpS D n a' b' (2 ^ n)))) = wrN a b x (bstL (cnC n a b) (prQ (mpS D n a b (2 ^ n)))) := by
  have hp := t.perm hD l l'
  have hz := fun c hc => ((mpS_iff (c := c) hD l).1 hc).1
  generalize mpS D n a b (2 ^ n) = L at *
  generalize mpS D n a' b' (2 ^ n) = L' at *
  have hcn := fun c hc => t.cn c (hz c hc)
  generalize cnC n a b = cn at *
  generalize cnC n a' b' = cn' at *
  have e0 : L = [] ↔ L' = [] := by
    constructor
    · intro h
      subst h
      exact List.Perm.eq_nil hp
    · intro h
      subst h
      exact List.map_eq_nil_iff.1 (List.Perm.eq_nil hp.symm)
  have e1 : mxC cn' (prQ L') = mxC cn (prQ L) := by
    by_cases h0 : L = []
    · rw [e0.1 h0, h0]; rfl
    · have h0' : L' ≠ [] := fun h => h0 (e0.2 h)
      obtain ⟨x, hx, h1⟩ := mx_at (cn := cn) h0
      obtain ⟨y, hy, h2⟩ := mx_at (cn := cn') h0'
      have h3 := mx_ge (cn := cn') (q := L') (c := f x) (hp.mem_iff.2 (List.mem_map_of_mem hx))
      obtain ⟨z, hzz, hzy⟩ := List.mem_map.1 (hp.mem_iff.1 hy)
      have h4 := mx_ge (cn := cn) hzz
      rw [hcn x hx] at h3
      rw [← hzy, hcn z hzz] at h2
      omega
  refine ⟨e0, e1, ?_, fun x x' hx => ?_⟩
  · rw [bst_len, bst_len, e1, hp.countP_eq, List.countP_map]
    refine List.countP_congr fun c hc => ?_
    show decide (cn' (f c) = _) = true ↔ decide (cn c = _) = true
    rw [hcn c hc]
  · rw [wr_len, wr_len, e1, hp.countP_eq, List.countP_map]
    refine List.countP_congr fun c hc => ?_
    show (!psF (f4 (f c)) a' b' x' && decide (cn' (f c) = _)) = true ↔ _
    rw [hcn c hc, hx c (hz c hc)]
end
end Go.Proofs.K
namespace Go.Proofs.K
open Go.As
set_option maxRecDepth 20000
set_option linter.unusedVariables false
set_option linter.unusedSimpArgs false
/-! ### Days are counted back -/

theorem ev_rev : ∀ (n : Nat) (c : Nat → Int), Po n fun x => evF c n (60 - x)
  | 0, _ => Po.zero 0
  | n + 1, c => by
    have h1 := (((ev_rev n fun k => c (k + 1)).sub 60).mul (-1)).add ((Po.const (c 0)).le (m := n + 1) (by omega))
    obtain ⟨d, hd⟩ := h1
    refine ⟨d, fun x => ?_⟩
    rw [← hd]
    show c 0 + (60 - x) * evF (fun k => c (k + 1)) n (60 - x) = -1 * (evF (fun k => c (k + 1)) n (60 - x) * (x - 60)) + c 0
    generalize evF (fun k => c (k + 1)) n (60 - x) = E
    grind
theorem Po.rev {n : Nat} {f : Int → Int} (h : Po n f) : Po n fun x => f (60 - x) := by
  obtain ⟨c, hc⟩ := h
  obtain ⟨d, hd⟩ := ev_rev n c
  exact ⟨d, fun x => by rw [← hd]; exact hc _⟩
def rvC (D : Nat) (c : C4) : C4 := c4 (csP (D + 1) fun d => plc (f4 c) (60 - d) 4)
section
variable {D : Nat} {c : C4}
theorem rv_z : ∀ k, D < k → k < 4 → f4 (rvC D c) k = 0 := fun k h1 h2 => by
  unfold rvC
  rw [f4_at h2]
  show cut (D + 1) _ k = 0
  unfold cut
  rw [if_neg (by omega)]
theorem rv_plc (hD : D ≤ 3) (hc : ∀ k, D < k → k < 4 → f4 c k = 0) {d : Nat} (hd : d ≤ 60) : plc (f4 (rvC D c)) d 4 = plc (f4 c) (60 - d) 4 := by
  have e1 : ∀ d, plc (f4 (rvC D c)) d 4 = plc (csP (D + 1) fun d => plc (f4 c) (60 - d) 4) d (D + 1) := fun d => by
    rw [plc_z (m := D + 1) (by omega) fun k h1 h2 => rv_z k (by omega) h2]
    refine plc_congr _ fun k hk => ?_
    unfold rvC
    rw [f4_at (by omega)]
  have e2 : ∀ d, plc (f4 c) d 4 = plc (f4 c) d (D + 1) := fun d => plc_z (by omega) fun k h1 h2 => hc k (by omega) h2
  rw [e1]
  have hz := ((pz_po (csP (D + 1) fun d => plc (f4 c) (60 - d) 4) (D + 1)).add ((pz_po (f4 c) (D + 1)).rev.mul (-1))).none (fun i => (i : Int)) (fun i j hi hj => by omega) (fun i hi => by
    show pzP _ (D + 1) (i : Int) + -1 * pzP (f4 c) (D + 1) (60 - (i : Int)) = 0
    rw [← pz_at (by omega) _ (by omega), cs_plc _ _ (by omega) i hi, e2, show (60 : Int) - (i : Int) = ((60 - i : Nat) : Int) by omega, ← pz_at (by omega) _ (by omega)]
    omega) d
  have hz' : pzP (csP (D + 1) fun d => plc (f4 c) (60 - d) 4) (D + 1) (d : Int) + -1 * pzP (f4 c) (D + 1) (60 - (d : Int)) = 0 := hz
  rw [← pz_at (by omega) _ (by omega), show (60 : Int) - (d : Int) = ((60 - d : Nat) : Int) by omega, ← pz_at (by omega) _ (by omega)] at hz'
  rw [e2]
  omega
theorem rv_rv (hD : D ≤ 3) (hc : ∀ k, D < k → k < 4 → f4 c k = 0) : rvC D (rvC D c) = c := by
  have h1 : ∀ k, k < D + 1 → csP (D + 1) (fun d => plc (f4 (rvC D c)) (60 - d) 4) k = f4 c k := plc_cs (f4 c) _ (D + 1) (by omega) fun d hd => by
    rw [rv_plc hD hc (by omega), show 60 - (60 - d) = d by omega]
    exact plc_z (by omega) fun k h1 h2 => hc k (by omega) h2
  refine c4_f4 fun k hk => ?_
  by_cases e : k < D + 1
  · exact h1 k e
  · rw [hc k (by omega) hk]
    show cut (D + 1) _ k = 0
    unfold cut
    rw [if_neg e]
theorem rv_ps (hD : D ≤ 3) (hc : ∀ k, D < k → k < 4 → f4 c k = 0) {n : Nat} {a b : Nat → Int} (ha : ∀ i, i < n → 0 ≤ a i ∧ a i ≤ 60) {i : Nat} (hi : i < n) : psF (f4 (rvC D c)) (fun i => 60 - a (n - 1 - i)) (fun i => b (n - 1 - i)) (n - 1 - i) = psF (f4 c) a b i := by
  have h1 := ha i hi
  unfold psF
  show decide (plc (f4 (rvC D c)) (60 - a (n - 1 - (n - 1 - i))).toNat 4 = b (n - 1 - (n - 1 - i))) = _
  rw [show n - 1 - (n - 1 - i) = i by omega, show (60 - a i).toNat = 60 - (a i).toNat by omega, rv_plc hD hc (by omega), show 60 - (60 - (a i).toNat) = (a i).toNat by omega]
end
theorem cnF_rev : ∀ (n : Nat) (p : Nat → Bool), cnF (fun i => p (n - 1 - i)) n = cnF p n
  | 0, _ => rfl
  | n + 1, p => by
    have ih := cnF_rev n fun i => p (1 + i)
    have h1 := cnF_add p 1 n
    rw [Nat.add_comm 1 n] at h1
    rw [h1, ← ih]
    show cnF (fun i => p (n + 1 - 1 - i)) n + (if p (n + 1 - 1 - n) = true then 1 else 0) = 0 + (if p 0 = true then 1 else 0) + _
    rw [show n + 1 - 1 - n = 0 by omega, cnF_congr (q := fun i => p (1 + (n - 1 - i))) n fun i hi => by show p (n + 1 - 1 - i) = p (1 + (n - 1 - i)); rw [show n + 1 - 1 - i = 1 + (n - 1 - i) by omega]]
    omega
theorem rv_two {D n : Nat} {a b : Nat → Int} (hD : D ≤ 3) (ha : ∀ i, i < n → 0 ≤ a i ∧ a i ≤ 60) : TwoL D n a b (fun i => 60 - a (n - 1 - i)) (fun i => b (n - 1 - i)) (rvC D) (rvC D) where
  fz := fun c _ => rv_z
  gz := fun c _ => rv_z
  fg := fun c hc => rv_rv hD hc
  gf := fun c hc => rv_rv hD hc
  cn := fun c hc => by
    unfold cnC
    rw [← cnF_rev n]
    exact cnF_congr n fun i hi => rv_ps hD hc ha hi

/-! ### The least degree of such a log -/

theorem TwoL.symm {D n : Nat} {a b a' b' : Nat → Int} {f g : C4 → C4} (t : TwoL D n a b a' b' f g) : TwoL D n a' b' a b g f where
  fz := t.gz
  gz := t.fz
  fg := t.gf
  gf := t.fg
  cn := fun c hc => by rw [← t.cn _ (t.gz c hc), t.fg c hc]
theorem ls_half {n : Nat} {a b a' b' : Nat → Int} (hn : 0 < n) (l : Lg n a b) (l' : Lg n a' b') (t : ∀ D, D ≤ 3 → ∃ f g, TwoL D n a b a' b' f g) (h : lsB n a b = true) : lsB n a' b' = true ∧ dgF (lsP n a' b') ≤ dgF (lsP n a b) := by
  obtain ⟨h1, h2, h3⟩ := ls_least l hn h
  obtain ⟨f, g, t⟩ := t _ h1
  obtain ⟨h4, h5⟩ := (mpS_iff h1 l).1 h2
  have h6 := t.cn _ h4
  have h7 : f (c4 (lsP n a b)) ∈ mpS (dgF (lsP n a b)) n a' b' (2 ^ n) := (mpS_iff h1 l').2 ⟨t.fz _ h4, by rw [h6]; exact h5⟩
  obtain ⟨h8, h9, _⟩ := ls_all h1 l' h7 (by rw [h6]; exact h3)
  exact ⟨h8, h9⟩
theorem ls_two {n : Nat} {a b a' b' : Nat → Int} (l : Lg n a b) (l' : Lg n a' b') (t : ∀ D, D ≤ 3 → ∃ f g, TwoL D n a b a' b' f g) : lsB n a' b' = lsB n a b ∧ (lsB n a b = true → dgF (lsP n a' b') = dgF (lsP n a b)) := by
  by_cases hn : n = 0
  · subst hn
    exact ⟨rfl, fun _ => rfl⟩
  have h1 := ls_half (by omega) l l' t
  have h2 := ls_half (by omega) l' l fun D hD => by obtain ⟨f, g, t⟩ := t D hD; exact ⟨g, f, t.symm⟩
  constructor
  · cases e : lsB n a b with
    | true => exact (h1 e).1
    | false =>
      cases e' : lsB n a' b' with
      | false => rfl
      | true => rw [(h2 e').1] at e; cases e
  · intro e
    have h3 := h1 e
    have h4 := h2 h3.1
    omega
end Go.Proofs.K
namespace Go.Proofs.K
open Go.As
set_option maxRecDepth 20000
set_option linter.unusedVariables false
set_option linter.unusedSimpArgs false
/-! ### What is told of two logs, by numbers -/

theorem two_nums (D : Nat) (hD : D ≤ 3) (ex ex' : Bool) (n : Nat) (a b a' b' : Nat → Int) (hv : ckL D n a b = 0) (hv' : ckL D n a' b' = 0) (f g : C4 → C4) (t : TwoL D n a b a' b' f g) :
    ∃ m e c : Int, (e = 0 ∨ e = 23 ∧ m = 0 ∧ c = 0) ∧ (n = 0 → e = 23) ∧
      (∀ h, CallOk Try.prog 29 [lgV D ex n a b] h (.tup [.int .i64 m, .int .i64 e]) h) ∧ (∀ h, CallOk Try.prog 29 [lgV D ex' n a' b'] h (.tup [.int .i64 m, .int .i64 e]) h) ∧
      (∀ h, CallOk Try.prog 31 [lgV D ex n a b] h (.tup [.int .i64 c, .int .i64 e]) h) ∧ (∀ h, CallOk Try.prog 31 [lgV D ex' n a' b'] h (.tup [.int .i64 c, .int .i64 e]) h) ∧
      (∀ x x', x < n → x' < n → (∀ c, (∀ k, D < k → k < 4 → f4 c k = 0) → psF (f4 (f c)) a' b' x' = psF (f4 c) a b x) → ∃ k : Int,
        (∀ h, CallOk Try.prog 33 [lgV D ex n a b, .int .i64 x] h (.tup [.int .i64 k, .int .i64 e]) h) ∧ (∀ h, CallOk Try.prog 33 [lgV D ex' n a' b', .int .i64 x'] h (.tup [.int .i64 k, .int .i64 e]) h)) ∧
      (e = 0 → ∃ c q, mpS D n a b (2 ^ n) = c :: q ∧ m = (mxC (cnC n a b) (prQ (c :: q)) : Nat)) := by
  have l := (ckL_lg hv).2
  have l' := (ckL_lg hv').2
  obtain ⟨t0, t1, t2, t3⟩ := t.all hD l l'
  have kM := fun h => mostP_ok h D hD ex n a b hv
  have kM' := fun h => mostP_ok h D hD ex' n a' b' hv'
  have kC := fun h => countP_ok h D hD ex n a b hv
  have kC' := fun h => countP_ok h D hD ex' n a' b' hv'
  by_cases hF : mpS D n a b (2 ^ n) = []
  · have hF' := t0.1 hF
    rw [hF] at kM kC
    rw [hF'] at kM' kC'
    exact ⟨0, 23, 0, .inr ⟨rfl, rfl, rfl⟩, fun _ => rfl, kM, kM', kC, kC', fun x x' hx hx' _ => ⟨0, fun h => kindP_none h D hD ex n a b hv x hx hF, fun h => kindP_none h D hD ex' n a' b' hv' x' hx' hF'⟩, fun h => absurd h (by decide)⟩
  · have hF' : mpS D n a' b' (2 ^ n) ≠ [] := fun h => hF (t0.2 h)
    obtain ⟨c, q, e1⟩ := List.exists_cons_of_ne_nil hF
    obtain ⟨c', q', e2⟩ := List.exists_cons_of_ne_nil hF'
    rw [e1, e2] at t1 t2 t3
    rw [e1] at kM kC
    rw [e2] at kM' kC'
    dsimp only at kM kC kM' kC'
    rw [t1] at kM'
    rw [t2] at kC'
    refine ⟨_, 0, _, .inl rfl, fun h0 => ?_, kM, kM', kC, kC', fun x x' hx hx' hps => ?_, fun _ => ⟨c, q, e1, rfl⟩⟩
    · subst h0
      have h1 := ((mpS_iff (c := c) hD l).1 (by rw [e1]; exact List.mem_cons_self ..)).2
      have h2 : cnC 0 a b c ≤ 0 := cnF_le _ _
      omega
    · have k1 := fun h => kindP_ok h D hD ex n a b hv x hx e1
      have k2 := fun h => kindP_ok h D hD ex' n a' b' hv' x' hx' e2
      rw [t3 x x' hps, t2] at k2
      exact ⟨_, k1, k2⟩
theorem two_least (D : Nat) (ex ex' : Bool) (n : Nat) (a b a' b' : Nat → Int) (hv : ckL D n a b = 0) (hv' : ckL D n a' b' = 0) (t : ∀ D, D ≤ 3 → ∃ f g, TwoL D n a b a' b' f g) :
    ∃ u v : Int, (n = 0 → v = 0) ∧ (∀ h, CallOk Try.prog 38 [lgV D ex n a b] h (.tup [.int .i64 u, .int .i64 v]) h) ∧ (∀ h, CallOk Try.prog 38 [lgV D ex' n a' b'] h (.tup [.int .i64 u, .int .i64 v]) h) := by
  have l := (ckL_lg hv).2
  have l' := (ckL_lg hv').2
  have hn := l.le
  obtain ⟨h1, h2⟩ := ls_two l l' t
  have k1 := fun h => leastP_ok h D ex n a b (by omega) hv (lsP n a b) rfl (lsB n a b) rfl
  have k2 := fun h => leastP_ok h D ex' n a' b' (by omega) hv' (lsP n a' b') rfl (lsB n a' b') rfl
  rw [h1] at k2
  cases hz : lsB n a b with
  | true =>
    rw [h2 hz] at k2
    rw [hz] at k1 k2
    rw [if_pos rfl, if_pos rfl] at k1 k2
    exact ⟨_, _, fun _ => rfl, k1, k2⟩
  | false =>
    rw [hz] at k1 k2
    rw [if_neg Bool.false_ne_true, if_neg Bool.false_ne_true] at k1 k2
    refine ⟨_, _, fun h0 => ?_, k1, k2⟩
    subst h0
    rw [ls_nil.1] at hz
    cases hz
/-- Both are the same. -/
theorem same_ok (h : As.H) (D : Nat) (hD : D ≤ 3) (ex ex' : Bool) (n : Nat) (a b a' b' : Nat → Int) (hv : ckL D n a b = 0) (hv' : ckL D n a' b' = 0) (t : ∀ D, D ≤ 3 → ∃ f g, TwoL D n a b a' b' f g) (w : Int) (hw : 0 ≤ w ∧ w ≤ 255) (tu : Bool)
    (f g : C4 → C4) (tf : TwoL D n a b a' b' f g) (hk : ∀ i, i < n → ∀ c, (∀ k, D < k → k < 4 → f4 c k = 0) → psF (f4 (f c)) a' b' (if tu = true then n - 1 - i else i) = psF (f4 c) a b i) :
    CallOk Try.prog 48 [lgV D ex n a b, lgV D ex' n a' b', .int .u8 w, .bool tu] h (.bool true) h := by
  have hn := (ckL_lg hv).2.le
  obtain ⟨m, e, c, o1, o2, k1, k2, k3, k4, k5, _⟩ := two_nums D hD ex ex' n a b a' b' hv hv' f g tf
  obtain ⟨u, v, o3, k6, k7⟩ := two_least D ex ex' n a b a' b' hv hv' t
  by_cases h0 : n = 0
  · subst h0
    have e1 := o2 rfl
    have e2 := o3 rfl
    subst e1; subst e2
    refine CallOk.run0 Try.func48 rfl rfl rfl rfl rfl (WpR.of_vc ?_)
    (conv => whnf); (repeat' (first | ((with_reducible refine ifb_mk (fun hc => ?_) (fun hc => ?_)) <;> ((try simp only [decide_eq_true_eq, decide_eq_false_iff_not, Bool.not_eq_true', Bool.not_eq_false', Int.not_lt, Int.not_le, ne_eq, Decidable.not_not, beq_iff_eq, List.cons.injEq, and_true] at hc); (first | (exfalso; omega) | exact absurd True.intro hc | conv => whnf))) | ((with_reducible refine And.intro True.intro ?_); conv => whnf) | ((with_reducible refine CallX.all ?_); refine CallW.of_ok (k1 _) ?_; conv => whnf) | ((with_reducible refine CallX.all ?_); refine CallW.of_ok (k2 _) ?_; conv => whnf) | ((with_reducible refine CallX.all ?_); refine CallW.of_ok (k3 _) ?_; conv => whnf) | ((with_reducible refine CallX.all ?_); refine CallW.of_ok (k4 _) ?_; conv => whnf) | ((with_reducible refine CallX.all ?_); refine CallW.of_ok (k6 _) ?_; conv => whnf) | ((with_reducible refine CallX.all ?_); refine CallW.of_ok (k7 _) ?_; conv => whnf) | ((with_reducible refine And.intro ?hh ?_); (case hh => exact condA); conv => whnf) | fail))
    all_goals first | (refine ⟨[], ?_, rfl, rfl, trivial, trivs⟩; simp only [renV, renL]; (first | done | rfl | (simp; done) | (simp; omega) | grind)) | (exfalso; omega)
  obtain ⟨x, ex1, hx⟩ : ∃ x : Nat, (IntKind.i64.wrap w).tmod n = x ∧ x < n := by
    rw [u8w hw, Int.tmod_eq_emod_of_nonneg hw.1]
    have h1 := Int.emod_nonneg w (b := n) (by omega)
    have h2 := Int.emod_lt_of_pos w (b := n) (by omega)
    exact ⟨(w % n).toNat, by omega, by omega⟩
  have y1 : InR ((IntKind.i64.wrap w).tmod n) := by rw [ex1]; unfold InR; omega
  have hk := hk x hx
  cases tu with
  | true =>
    obtain ⟨kd, k8, k9⟩ := k5 x (n - 1 - x) hx (by omega) hk
    rw [← ex1] at k8
    rw [show ((n - 1 - x : Nat) : Int) = (n : Int) - 1 - x by omega, ← ex1] at k9
    refine CallOk.run0 Try.func48 rfl rfl rfl rfl rfl (WpR.of_vc ?_)
    (conv => whnf); (repeat' (first | ((with_reducible refine ifb_mk (fun hc => ?_) (fun hc => ?_)) <;> ((try simp only [decide_eq_true_eq, decide_eq_false_iff_not, Bool.not_eq_true', Bool.not_eq_false', Int.not_lt, Int.not_le, ne_eq, Decidable.not_not, beq_iff_eq, List.cons.injEq, and_true] at hc); (first | (exfalso; omega) | exact absurd True.intro hc | conv => whnf))) | ((with_reducible refine And.intro True.intro ?_); conv => whnf) | ((with_reducible refine CallX.all ?_); refine CallW.of_ok (k1 _) ?_; conv => whnf) | ((with_reducible refine CallX.all ?_); refine CallW.of_ok (k2 _) ?_; conv => whnf) | ((with_reducible refine CallX.all ?_); refine CallW.of_ok (k3 _) ?_; conv => whnf) | ((with_reducible refine CallX.all ?_); refine CallW.of_ok (k4 _) ?_; conv => whnf) | ((with_reducible refine CallX.all ?_); refine CallW.of_ok (k6 _) ?_; conv => whnf) | ((with_reducible refine CallX.all ?_); refine CallW.of_ok (k7 _) ?_; conv => whnf) | ((with_reducible refine CallX.all ?_); refine CallW.of_ok (k8 _) ?_; conv => whnf) | ((with_reducible refine CallX.all ?_); refine CallW.of_ok (k9 _) ?_; conv => whnf) | ((with_reducible refine grd_and ?_); refine And.intro (y1) ?_; conv => whnf) | ((with_reducible refine And.intro ?hh ?_); (case hh => exact condA); conv => whnf) | fail))
    all_goals first | (refine ⟨[], ?_, rfl, rfl, trivial, trivs⟩; simp only [renV, renL]; (first | done | rfl | (simp; done) | (simp; omega) | grind)) | (exfalso; omega)
  | false =>
    obtain ⟨kd, k8, k9⟩ := k5 x x hx hx hk
    rw [← ex1] at k8 k9
    refine CallOk.run0 Try.func48 rfl rfl rfl rfl rfl (WpR.of_vc ?_)
    (conv => whnf); (repeat' (first | ((with_reducible refine ifb_mk (fun hc => ?_) (fun hc => ?_)) <;> ((try simp only [decide_eq_true_eq, decide_eq_false_iff_not, Bool.not_eq_true', Bool.not_eq_false', Int.not_lt, Int.not_le, ne_eq, Decidable.not_not, beq_iff_eq, List.cons.injEq, and_true] at hc); (first | (exfalso; omega) | exact absurd True.intro hc | conv => whnf))) | ((with_reducible refine And.intro True.intro ?_); conv => whnf) | ((with_reducible refine CallX.all ?_); refine CallW.of_ok (k1 _) ?_; conv => whnf) | ((with_reducible refine CallX.all ?_); refine CallW.of_ok (k2 _) ?_; conv => whnf) | ((with_reducible refine CallX.all ?_); refine CallW.of_ok (k3 _) ?_; conv => whnf) | ((with_reducible refine CallX.all ?_); refine CallW.of_ok (k4 _) ?_; conv => whnf) | ((with_reducible refine CallX.all ?_); refine CallW.of_ok (k6 _) ?_; conv => whnf) | ((with_reducible refine CallX.all ?_); refine CallW.of_ok (k7 _) ?_; conv => whnf) | ((with_reducible refine CallX.all ?_); refine CallW.of_ok (k8 _) ?_; conv => whnf) | ((with_reducible refine CallX.all ?_); refine CallW.of_ok (k9 _) ?_; conv => whnf) | ((with_reducible refine grd_and ?_); refine And.intro (y1) ?_; conv => whnf) | ((with_reducible refine And.intro ?hh ?_); (case hh => exact condA); conv => whnf) | fail))
    all_goals first | (refine ⟨[], ?_, rfl, rfl, trivial, trivs⟩; simp only [renV, renL]; (first | done | rfl | (simp; done) | (simp; omega) | grind)) | (exfalso; omega)
end Go.Proofs.K
namespace Go.Proofs.K
open Go.As
set_option maxRecDepth 20000
set_option linter.unusedVariables false
set_option linter.unusedSimpArgs false
/-! ### A log that is built -/

def eS (x : Int × Int) : List V := [.int .i64 x.1, .int .i64 x.2]
theorem eS_bare (x : Int × Int) : ∀ v ∈ eS x, bare0 v = true := by
  intro v hv
  rcases List.mem_cons.1 hv with rfl | hv
  · rfl
  · rw [List.mem_singleton.1 hv]; rfl
theorem eS_len (x : Int × Int) : (eS x).length = 2 := rfl
theorem gP_bare (l : List (Int × Int)) : ∀ v ∈ gR eS l, bare0 v = true := gR_bare eS_bare
theorem gS_len (l : List (Int × Int)) : (gR eS l).length = l.length * 2 := gR_len eS_len l
theorem gS_one (l : List (Int × Int)) : (gR eS l).all one = true := gR_one eS_bare l
def lsT (a b : Nat → Int) : Nat → List (Int × Int)
  | 0 => []
  | j + 1 => (a j, b j) :: lsT a b j
theorem lsT_len (a b : Nat → Int) : ∀ n, (lsT a b n).length = n
  | 0 => rfl
  | n + 1 => by show (lsT a b n).length + 1 = n + 1; rw [lsT_len a b n]
theorem lsT_rev (a b : Nat → Int) : ∀ (n : Nat) (j : Nat) (x : Int × Int), (lsT a b n).reverse[j]? = some x → x = (a j, b j)
  | 0, j, x, h => by simp [lsT] at h
  | n + 1, j, x, h => by
    have e : (lsT a b (n + 1)).reverse = (lsT a b n).reverse ++ [(a n, b n)] := List.reverse_cons
    rw [e] at h
    by_cases hj : j < n
    · rw [List.getElem?_append_left (by rw [List.length_reverse, lsT_len]; exact hj)] at h
      exact lsT_rev a b n j x h
    · rw [List.getElem?_append_right (by rw [List.length_reverse, lsT_len]; omega), List.length_reverse, lsT_len] at h
      by_cases h2 : j = n
      · subst h2
        rw [Nat.sub_self] at h
        exact (Option.some.inj h).symm
      · rw [List.getElem?_eq_none (by simp; omega)] at h; cases h
theorem th_log {h : As.H} {q : Nat → Prop} {D : Int} {bb : Nat} {a b : Nat → Int} {n : Nat} (hq : q bb) (hb : h.get bb = some (grB 2 (gR eS (lsT a b n)) n)) : Th h q (lgV D false n a b) (.agg [.int .i64 D, grV bb n]) := by
  refine (ThL.cons (.same rfl) (.cons ?_ .nil)).agg
  cases n with
  | zero => exact .nil
  | succ n =>
    have hl := lsT_len a b (n + 1)
    refine .sl (c := ofL (gR eS (lsT a b (n + 1))) 0) hq hb (fun h => by cases h) (Nat.le_refl _) (fun j hj => rfl) fun j hj k v hv => ?_
    obtain ⟨x, hx⟩ : ∃ x, (lsT a b (n + 1)).reverse[j]? = some x := ⟨_, List.getElem?_eq_getElem (by rw [List.length_reverse, hl]; exact hj)⟩
    have e := lsT_rev a b (n + 1) j x hx
    have hv2 : (eS x)[k]? = some v := by rw [e]; exact hv
    refine ⟨?_, eS_bare x v (List.mem_of_getElem? hv2)⟩
    rw [Nat.zero_add]
    exact get_ofL0 (gR_at eS_len hx hv2)
theorem ckL_of {D : Int} {n : Nat} {a b : Nat → Int} (hD : 0 ≤ D ∧ D ≤ 3) (l : Lg n a b) : ckL D n a b = 0 := by
  unfold ckL
  rw [if_pos hD, if_pos l.le, if_pos (allF_t fun i hi => by unfold okS; exact decide_eq_true ⟨l.rg i hi, l.at' i hi⟩), if_pos (allF_t fun i hi => by unfold okD; exact decide_eq_true fun h0 => l.up i (i - 1) hi (by omega))]
end Go.Proofs.K
set_option linter.unusedVariables false
namespace Go.Proofs.K
open Go.As
set_option maxRecDepth 20000
set_option linter.unusedVariables false
set_option linter.unusedSimpArgs false
/-! ### The law about days that are counted back -/

def ixF (z : Int) : Nat → Int
  | 0 => z
  | j + 1 => ixF z j - 1
theorem ixF_eq (z : Int) : ∀ j, ixF z j = z - j
  | 0 => by show z = z - 0; omega
  | j + 1 => by show ixF z j - 1 = _; rw [ixF_eq z j]; omega

set_option maxHeartbeats 16000000 in
theorem lawTurned (h : As.H) (D : Int) (n : Nat) (a b : Nat → Int) (hn : n ≤ 9223372036854775807) (w : Int) (hw : 0 ≤ w ∧ w ≤ 255) :
    CallOk Try.prog 11 [lgV D false n a b, .int .u8 w] h (.bool true) h := by
  have kWk := fun h : As.H => wwhole.everywhere rfl h
  have kR := fun h' => checkLogR_ok h' D false n a b hn
  by_cases hg : 20 < n
  · refine CallOk.run0 Try.func11 rfl rfl rfl rfl rfl (WpR.of_vc ?_)
    (conv => whnf); (repeat' (first | ((with_reducible refine ifb_mk (fun hc => ?_) (fun hc => ?_)) <;> ((try simp only [decide_eq_true_eq, decide_eq_false_iff_not, Bool.not_eq_true', Bool.not_eq_false', Int.not_lt, Int.not_le, ne_eq, Decidable.not_not, beq_iff_eq, List.cons.injEq, and_true] at hc); (first | (exfalso; omega) | exact absurd True.intro hc | conv => whnf))) | ((with_reducible refine And.intro True.intro ?_); conv => whnf) | ((with_reducible refine CallX.all ?_); refine CallW.of_ok (kWk _) ?_; conv => whnf) | ((with_reducible refine CallX.all (f := 40) ?_); refine CallW.inline Try.func40 rfl rfl (Nat.le_of_ble_eq_true rfl) (WpR.of_vc ?_); conv => whnf) | ((with_reducible refine CallX.all (f := 22) ?_); refine CallW.inline Try.func22 rfl rfl (Nat.le_of_ble_eq_true rfl) (WpR.of_vc ?_); conv => whnf) | ((with_reducible refine And.intro ?hh ?_); (case hh => exact condA); conv => whnf) | fail))
    all_goals first | (refine ⟨[], ?_, rfl, rfl, trivial, trivs⟩; simp only [renV, renL]; (first | done | rfl | (simp; done) | (simp; omega) | grind)) | (exfalso; omega)
  by_cases hv : ckL D n a b = 0
  rotate_left
  · generalize ckL D n a b = c at *
    refine CallOk.run0 Try.func11 rfl rfl rfl rfl rfl (WpR.of_vc ?_)
    (conv => whnf); (repeat' (first | ((with_reducible refine ifb_mk (fun hc => ?_) (fun hc => ?_)) <;> ((try simp only [decide_eq_true_eq, decide_eq_false_iff_not, Bool.not_eq_true', Bool.not_eq_false', Int.not_lt, Int.not_le, ne_eq, Decidable.not_not, beq_iff_eq, List.cons.injEq, and_true] at hc); (first | (exfalso; omega) | exact absurd True.intro hc | conv => whnf))) | ((with_reducible refine And.intro True.intro ?_); conv => whnf) | ((with_reducible refine CallX.all ?_); refine CallW.of_ok (kWk _) ?_; conv => whnf) | ((with_reducible refine CallX.all ?_); refine CallW.of_ok (kR _) ?_; conv => whnf) | ((with_reducible refine grd_ex ?_); refine ex_ok (kR _) ?_; conv => whnf) | ((with_reducible refine CallX.all (f := 40) ?_); refine CallW.inline Try.func40 rfl rfl (Nat.le_of_ble_eq_true rfl) (WpR.of_vc ?_); conv => whnf) | ((with_reducible refine CallX.all (f := 22) ?_); refine CallW.inline Try.func22 rfl rfl (Nat.le_of_ble_eq_true rfl) (WpR.of_vc ?_); conv => whnf) | ((with_reducible refine And.intro ?hh ?_); (case hh => exact condA); conv => whnf) | fail))
    all_goals first | (refine ⟨[], ?_, rfl, rfl, trivial, trivs⟩; simp only [renV, renL]; (first | done | rfl | (simp; done) | (simp; omega) | grind)) | (exfalso; omega)
  obtain ⟨hD, l⟩ := ckL_lg hv
  obtain ⟨d, rfl⟩ : ∃ d : Nat, D = (d : Int) := ⟨D.toNat, by omega⟩
  have hn12 := l.le
  have l' : Lg n (fun i => 60 - a (n - 1 - i)) (fun i => b (n - 1 - i)) := ⟨l.le, fun i hi => by have := l.rg (n - 1 - i) (by omega); omega, fun i j hi hj => by have := l.up (n - 1 - j) (n - 1 - i) (by omega) (by omega); omega, fun i hi => l.at' (n - 1 - i) (by omega)⟩
  have kS := same_ok As.H.empty d (by omega) false false n a b _ _ hv (ckL_of hD l') (fun D hD => ⟨_, _, rv_two hD l.rg⟩) w hw true (rvC d) (rvC d) (rv_two (by omega) l.rg) (fun i hi c hc => by rw [if_pos rfl]; exact rv_ps (by omega) hc l.rg hi)
  have ha := l.rg
  rw [hv] at kR
  clear l l' hv
  have hs0 : lsT (fun i => 60 - a (n - 1 - i)) (fun i => b (n - 1 - i)) 0 = [] := rfl
  have hss : ∀ i, lsT (fun i => 60 - a (n - 1 - i)) (fun i => b (n - 1 - i)) (i + 1) = (60 - a (n - 1 - i), b (n - 1 - i)) :: lsT (fun i => 60 - a (n - 1 - i)) (fun i => b (n - 1 - i)) i := fun i => rfl
  have hsl := lsT_len (fun i => 60 - a (n - 1 - i)) (fun i => b (n - 1 - i))
  have kT := fun (h' : As.H) bb (hb : h'.get bb = some (grB 2 (gR eS (lsT (fun i => 60 - a (n - 1 - i)) (fun i => b (n - 1 - i)) n)) n)) => CallOk.thaw kS rfl h' (.cons (.same rfl) (.cons (th_log (q := fun _ => True) (D := d) trivial hb) (.cons (.same rfl) (.cons (.same rfl) .nil))))
  clear kS
  generalize lsT (fun i => 60 - a (n - 1 - i)) (fun i => b (n - 1 - i)) = SL at *
  have kT' : ∀ (h' : As.H) bb q, q = SL n → h'.get bb = some (grB 2 (gR eS q) q.length) → CallOk Try.prog 48 [lgV d false n a b, .agg [.int .i64 d, grV bb q.length], .int .u8 w, .bool true] h' (.bool true) h' := fun h' bb q hq hb => by
    subst hq
    rw [hsl] at hb ⊢
    exact kT h' bb hb
  clear kT
  have hix := ixF_eq ((n : Int) - 1)
  refine CallOk.run0 Try.func11 rfl rfl rfl rfl rfl (WpR.of_vc ?_)
  (conv => whnf); (repeat' (first | ((with_reducible refine ifb_mk (fun hc => ?_) (fun hc => ?_)) <;> ((try simp only [decide_eq_true_eq, decide_eq_false_iff_not, Bool.not_eq_true', Bool.not_eq_false', Int.not_lt, Int.not_le, ne_eq, Decidable.not_not, beq_iff_eq, List.cons.injEq, and_true] at hc); (first | (exfalso; omega) | exact absurd True.intro hc | conv => whnf))) | ((with_reducible refine And.intro True.intro ?_); conv => whnf) | ((with_reducible refine CallX.all ?_); refine CallW.of_ok (kR _) ?_; conv => whnf) | ((with_reducible refine grd_ex ?_); refine ex_ok (kR _) ?_; conv => whnf) | ((with_reducible refine CallX.all (f := 40) ?_); refine CallW.inline Try.func40 rfl rfl (Nat.le_of_ble_eq_true rfl) (WpR.of_vc ?_); conv => whnf) | ((with_reducible refine CallX.all (f := 22) ?_); refine CallW.inline Try.func22 rfl rfl (Nat.le_of_ble_eq_true rfl) (WpR.of_vc ?_); conv => whnf) | ((with_reducible refine And.intro ?hh ?_); (case hh => exact condA); conv => whnf) | fail))
  have hMap : ∀ i, ltB 5 (.cells (ofL [.int .i64 d, grV 4 i] 0) true none) := fun i => ltB_ofL (by intro v hv; (repeat (rcases List.mem_cons.1 hv with rfl | hv; (first | rfl | exact grV_lt rfl i))); cases hv)
  have hMapA : ∀ i, ltB 1000 (.cells (ofL [.int .i64 d, grV 4 i] 0) true none) := fun i => ltB_ofL (by intro v hv; (repeat (rcases List.mem_cons.1 hv with rfl | hv; (first | rfl | exact grV_lt rfl i))); cases hv)
  have hMap2 : ∀ l : List (Int × Int), ltB 5 (grB 2 (gR eS l) l.length) := fun l => grB_lt (gR_bare eS_bare) _
  refine WpR.loopA (ι := Nat × List (Int × Int)) [4] [0, 1, 2, 4, 5] [3, 4] [] 5 (fun p => [(6, .int .i64 (ixF ((n : Int) - 1) p.1))]) (fun p => [(3, .cells (ofL [.int .i64 d, grV 4 p.2.length] 0) true none), (4, grB 2 (gR eS p.2) p.2.length)]) (fun p => n - p.1) (fun p => p.1 ≤ n ∧ p.2 = SL p.1) ?_ ((0, [])) (⟨Nat.zero_le _, hs0.symm⟩) [] Back.auto
  rintro ⟨j, q⟩ ⟨j1, j2⟩
  dsimp only at j1 j2
  refine WpR.of_vc ?_
  have hql := hsl j
  rw [← j2] at hql
  have hixj := hix j
  have hixs : ixF ((n : Int) - 1) (j + 1) = ixF ((n : Int) - 1) j - 1 := rfl
  by_cases hj : j < n
  · have e := hss j
    rw [← j2] at e
    have ej : ixF ((n : Int) - 1) j = ((n - 1 - j : Nat) : Int) := by omega
    have haj := ha (n - 1 - j) (by omega)
    have y1 : InR (60 - a (n - 1 - j)) := by unfold InR; omega
    have y2 : InR (ixF ((n : Int) - 1) j - 1) := by unfold InR; omega
    have y3 : 0 ≤ ixF ((n : Int) - 1) j := by omega
    (conv => whnf); (repeat' (first | ((with_reducible refine ifb_mk (fun hc => ?_) (fun hc => ?_)) <;> ((try simp only [decide_eq_true_eq, decide_eq_false_iff_not, Bool.not_eq_true', Bool.not_eq_false', Int.not_lt, Int.not_le, ne_eq, Decidable.not_not, beq_iff_eq, List.cons.injEq, and_true] at hc); (first | (exfalso; omega) | exact absurd True.intro hc | conv => whnf))) | ((with_reducible refine And.intro True.intro ?_); conv => whnf) | ((with_reducible refine grd_and ?_); refine And.intro (y1) ?_; conv => whnf) | ((with_reducible refine grd_and ?_); refine And.intro (y2) ?_; conv => whnf) | ((with_reducible refine grd_and ?_); refine And.intro (y3) ?_; conv => whnf) | (((with_reducible refine idxP_mk (k := n - 1 - j) ?hh ?_); (case hh => exact ej)); conv => whnf) | (refine AppX.gr (n := 1) (L := gR eS q) (len := q.length) rfl rfl (gS_len q) (gS_one q) Nat.zero_lt_one (by omega) ?_; conv => whnf) | ((with_reducible refine And.intro ?hh ?_); (case hh => exact condA); conv => whnf) | fail))
    all_goals first | (exfalso; omega) | exact ⟨(j + 1, (60 - a (n - 1 - j), b (n - 1 - j)) :: q), [(4, 7)], by dsimp only; omega, ⟨by dsimp only; omega, e.symm⟩, Back.auto⟩
  · have ej : j = n := by omega
    rw [ej] at j2 hixj
    have y3 : ixF ((n : Int) - 1) n < 0 := by omega
    subst ej
    (conv => whnf); (repeat' (first | ((with_reducible refine ifb_mk (fun hc => ?_) (fun hc => ?_)) <;> ((try simp only [decide_eq_true_eq, decide_eq_false_iff_not, Bool.not_eq_true', Bool.not_eq_false', Int.not_lt, Int.not_le, ne_eq, Decidable.not_not, beq_iff_eq, List.cons.injEq, and_true] at hc); (first | (exfalso; omega) | exact absurd True.intro hc | conv => whnf))) | ((with_reducible refine And.intro True.intro ?_); conv => whnf) | ((with_reducible refine grd_and ?_); refine And.intro (y3) ?_; conv => whnf) | ((with_reducible refine CallX.all ?_); refine CallW.of_ok (kT' _ 4 q j2 rfl) ?_; conv => whnf) | ((with_reducible refine grd_ex ?_); refine ex_ok (kT' _ 4 q j2 rfl) ?_; conv => whnf) | ((with_reducible refine CallX.all ?_); refine CallW.of_ok (kWk _) ?_; conv => whnf) | ((with_reducible refine grd_ex ?_); refine ex_ok (kWk _) ?_; conv => whnf) | ((with_reducible refine And.intro ?hh ?_); (case hh => exact condA); conv => whnf) | fail))
    all_goals first | (exfalso; omega) | (refine ⟨[], ?_, rfl, rfl, trivial, trivs⟩; simp only [renV, renL]; (first | done | rfl | (simp; done) | (simp; omega) | grind))
end Go.Proofs.K
