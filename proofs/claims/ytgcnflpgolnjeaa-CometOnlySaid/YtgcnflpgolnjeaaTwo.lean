/- What the functions answer that the laws call, one after another (Two). -/
import Derived.Test.YtgcnflpgolnjeaaAs6
import Derived.Test.YtgcnflpgolnjeaaUni
import Derived.Test.YtgcnflpgolnjeaaMst
import Derived.Test.YtgcnflpgolnjeaaKnd
import Derived.Test.YtgcnflpgolnjeaaSti
import Derived.Test.YtgcnflpgolnjeaaWk
set_option linter.unusedVariables false
set_option linter.unusedSimpArgs false
namespace Go.Proofs.K
open Go.As
set_option maxRecDepth 20000
theorem prQ_count (P : C4 → Bool) (q : List C4) : ((prQ q).filter fun e => P e.1).length = q.countP P := by
  rw [← List.countP_eq_length_filter]
  have h1 : (prQ q).countP (fun e => P e.1) = ((prQ q).map (·.1)).countP P := by rw [List.countP_map]; rfl
  rw [h1, prQ_keys, List.countP_reverse]
theorem bst_len (cn : C4 → Nat) (q : List C4) : (bstL cn (prQ q)).length = q.countP fun c => decide (cn c = mxC cn (prQ q)) := prQ_count (fun c => decide (cn c = mxC cn (prQ q))) q
theorem wr_len (cn : C4 → Nat) (a b : Nat → Int) (x : Nat) (q : List C4) : wrN a b x (bstL cn (prQ q)) = q.countP fun c => !psF (f4 c) a b x && decide (cn c = mxC cn (prQ q)) := by
  rw [← prQ_count (fun c => !psF (f4 c) a b x && decide (cn c = mxC cn (prQ q))) q]
  unfold wrN bstL
  rw [List.filter_filter]
structure TwoL (D n : Nat) (a b a' b' : Nat → Int) (f g : C4 → C4) : Prop where
  fz : ∀ c, (∀ k, D < k → k < 4 → f4 c k = 0) → ∀ k, D < k → k < 4 → f4 (f c) k = 0
  gz : ∀ c, (∀ k, D < k → k < 4 → f4 c k = 0) → ∀ k, D < k → k < 4 → f4 (g c) k = 0
  fg : ∀ c, (∀ k, D < k → k < 4 → f4 c k = 0) → f (g c) = c
  gf : ∀ c, (∀ k, D < k → k < 4 → f4 c k = 0) → g (f c) = c
  cn : ∀ c, (∀ k, D < k → k < 4 → f4 c k = 0) → cnC n a' b' (f c) = cnC n a b c
section
variable {D n : Nat} {a b a' b' : Nat → Int} {f g : C4 → C4}
theorem TwoL.perm (hD : D ≤ 3) (l : Lg n a b) (l' : Lg n a' b') (t : TwoL D n a b a' b' f g) : (mpS D n a' b' (2 ^ n)).Perm ((mpS D n a b (2 ^ n)).map f) := by
  have hi := fun c => mpS_iff (c := c) hD l
  have hi' := fun c => mpS_iff (c := c) hD l'
  have hn := mpS_nodup D n a b (2 ^ n)
  have hn' := mpS_nodup D n a' b' (2 ^ n)
  generalize mpS D n a b (2 ^ n) = L at *
  generalize mpS D n a' b' (2 ^ n) = L' at *
  have hinj : (L.map f).Nodup := by
    rw [List.Nodup, List.pairwise_map]
    refine hn.imp_of_mem fun {x y} hx hy hne he => hne ?_
    rw [← t.gf x ((hi x).1 hx).1, ← t.gf y ((hi y).1 hy).1, he]
  rw [List.perm_ext_iff_of_nodup hn' hinj]
  intro c
  constructor
  · intro h
    obtain ⟨h1, h2⟩ := (hi' c).1 h
    refine List.mem_map.2 ⟨g c, (hi _).2 ⟨t.gz c h1, ?_⟩, t.fg c h1⟩
    rw [← t.cn _ (t.gz c h1), t.fg c h1]
    exact h2
  · intro h
    obtain ⟨x, hx, rfl⟩ := List.mem_map.1 h
    obtain ⟨h1, h2⟩ := (hi x).1 hx
    refine (hi' _).2 ⟨t.fz x h1, ?_⟩
    rw [t.cn x h1]
    exact h2
theorem TwoL.all (hD : D ≤ 3) (l : Lg n a b) (l' : Lg n a' b') (t : TwoL D n a b a' b' f g) :
    (mpS D n a b (2 ^ n) = [] ↔ mpS D n a' b' (2 ^ n) = []) ∧ mxC (cnC n a' b') (prQ (mpS D n a' b' (2 ^ n))) = mxC (cnC n a b) (prQ (mpS D n a b (2 ^ n))) ∧
    (bstL (cnC n a' b') (prQ (mpS D n a' b' (2 ^ n)))).length = (bstL (cnC n a b) (prQ (mpS D n a b (2 ^ n)))).length ∧
    ∀ x x', (∀ c, (∀ k, D < k → k < 4 → f4 c k = 0) → psF (f4 (f c)) a' b' x' = psF (f4 c) a b x) → wrN a' b' x' (bstL (cnC n a' b') (prQ (mpS D n a' b' (2 ^ n)))) = wrN a b x (bstL (cnC n a b) (prQ (mpS D n a b (2 ^ n)))) := by
  have hp := t.perm hD l l'
  have hz := fun c hc => ((mpS_iff (c := c) hD l).1 hc).1
  generalize mpS D n a b (2 ^ n) = L at *
  generalize mpS D n a' b' (2 ^ n) = L' at *
  have hcn := fun c hc => t.cn c (hz c hc)
  generalize cnC n a b = cn at *
  generalize cnC n a' b' = cn' at *
  have e0 : L = [] ↔ L' = [] := by
    constructor
    · intro h
      subst h
      exact List.Perm.eq_nil hp
    · intro h
      subst h
      exact List.map_eq_nil_iff.1 (List.Perm.eq_nil hp.symm)
  have e1 : mxC cn' (prQ L') = mxC cn (prQ L) := by
    by_cases h0 : L = []
    · rw [e0.1 h0, h0]; rfl
    · have h0' : L' ≠ [] := fun h => h0 (e0.2 h)
      obtain ⟨x, hx, h1⟩ := mx_at (cn := cn) h0
      obtain ⟨y, hy, h2⟩ := mx_at (cn := cn') h0'
      have h3 := mx_ge (cn := cn') (q := L') (c := f x) (hp.mem_iff.2 (List.mem_map_of_mem hx))
      obtain ⟨z, hzz, hzy⟩ := List.mem_map.1 (hp.mem_iff.1 hy)
      have h4 := mx_ge (cn := cn) hzz
      rw [hcn x hx] at h3
      rw [← hzy, hcn z hzz] at h2
      omega
  refine ⟨e0, e1, ?_, fun x x' hx => ?_⟩
  · rw [bst_len, bst_len, e1, hp.countP_eq, List.countP_map]
    refine List.countP_congr fun c hc => ?_
    show decide (cn' (f c) = _) = true ↔ decide (cn c = _) = true
    rw [hcn c hc]
  · rw [wr_len, wr_len, e1, hp.countP_eq, List.countP_map]
    refine List.countP_congr fun c hc => ?_
    show (!psF (f4 (f c)) a' b' x' && decide (cn' (f c) = _)) = true ↔ _
    rw [hcn c hc, hx c (hz c hc)]
end
end Go.Proofs.K
namespace Go.Proofs.K
open Go.As
set_option maxRecDepth 20000
section
variable {D : Nat} {c : C4}
end
theorem TwoL.symm {D n : Nat} {a b a' b' : Nat → Int} {f g : C4 → C4} (t : TwoL D n a b a' b' f g) : TwoL D n a' b' a b g f where
  fz := t.gz
  gz := t.fz
  fg := t.gf
  gf := t.fg
  cn := fun c hc => by rw [← t.cn _ (t.gz c hc), t.fg c hc]
end Go.Proofs.K
namespace Go.Proofs.K
open Go.As
set_option maxRecDepth 20000
end Go.Proofs.K
namespace Go.Proofs.K
open Go.As
set_option maxRecDepth 20000
def eS (x : Int × Int) : List V := [.int .i64 x.1, .int .i64 x.2]
theorem eS_bare (x : Int × Int) : ∀ v ∈ eS x, bare0 v = true := by
  intro v hv
  rcases List.mem_cons.1 hv with rfl | hv
  · rfl
  · rw [List.mem_singleton.1 hv]; rfl
theorem gP_bare (l : List (Int × Int)) : ∀ v ∈ gR eS l, bare0 v = true := gR_bare eS_bare
end Go.Proofs.K
