/- What the functions answer that the laws call, one after another (Cnt). -/
import Derived.Test.YtppfddfmcnlioaaAs6
import Derived.Test.YtppfddfmcnlioaaBgn

set_option linter.unusedVariables false
namespace Go.Proofs.J
open Go.As
set_option maxRecDepth 20000
set_option linter.unusedVariables false
set_option linter.unusedSimpArgs false

/-! ### How many orders there are -/

/-- The sum of the first n. -/
def smZ : Nat → (Nat → Int) → Int
  | 0, _ => 0
  | n + 1, f => smZ n f + f n
theorem smZ_le {f : Nat → Int} {B : Int} : ∀ n, (∀ k, k < n → 0 ≤ f k ∧ f k ≤ B) → 0 ≤ smZ n f ∧ smZ n f ≤ n * B
  | 0, _ => by simp [smZ]
  | n + 1, h => by
    have h1 := smZ_le n fun k hk => h k (by omega)
    have h2 := h n (by omega)
    unfold smZ
    have e : ((n + 1 : Nat) : Int) * B = (n : Int) * B + B := by rw [Int.natCast_add, Int.add_mul]; simp
    rw [e]; omega
/-- In how many ways a group is completed by m more of S stars. -/
def wN (br : Nat → Nat) (S : Nat) : Nat → Nat → Int
  | 0, _ => 1
  | m + 1, g => smZ S fun x => if elB br g x = true then wN br S m (g ||| 2 ^ x) else 0
theorem wN_rng {br : Nat → Nat} {S : Nat} (hS : S ≤ 10) : ∀ m g, 0 ≤ wN br S m g ∧ wN br S m g ≤ 10 ^ m
  | 0, g => ⟨(show (0 : Int) ≤ 1 by decide), (show (1 : Int) ≤ 10 ^ 0 by decide)⟩
  | m + 1, g => by
    have h := smZ_le (B := 10 ^ m) S (f := fun x => if elB br g x = true then wN br S m (g ||| 2 ^ x) else 0) fun k _ => by
      have := wN_rng (br := br) hS m (g ||| 2 ^ k)
      have hp : (0 : Int) ≤ 10 ^ m := by have : (0 : Int) < 10 ^ m := Int.pow_pos (by decide); omega
      (try dsimp only)
      constructor <;> (split <;> omega)
    have hp : (0 : Int) ≤ 10 ^ m := by have : (0 : Int) < 10 ^ m := Int.pow_pos (by decide); omega
    have h2 : (S : Int) * 10 ^ m ≤ 10 * 10 ^ m := Int.mul_le_mul_of_nonneg_right (by omega) hp
    have e : (10 : Int) ^ (m + 1) = 10 * 10 ^ m := by rw [Int.pow_succ, Int.mul_comm]
    rw [e]
    exact ⟨h.1, by have := h.2; show smZ S _ ≤ _; omega⟩
/-- In how many ways a beginning is completed. -/
def wB (br : Nat → Nat) (S : Nat) (p : Bg) : Int := wN br S (S - p.1) p.2
theorem wB_rng {br : Nat → Nat} {S : Nat} (hS : S ≤ 10) (p : Bg) : 0 ≤ wB br S p ∧ wB br S p ≤ 10000000000 := by
  have h := wN_rng (br := br) hS (S - p.1) p.2
  have h2 : (10 : Int) ^ (S - p.1) ≤ 10 ^ 10 := by
    have := Nat.pow_le_pow_right (n := 10) (by decide) (by omega : S - p.1 ≤ 10)
    have h3 : (((10 ^ (S - p.1) : Nat) : Int)) ≤ ((10 ^ 10 : Nat) : Int) := Int.ofNat_le.2 this
    simpa using h3
  unfold wB
  have e : (10 : Int) ^ 10 = 10000000000 := by decide
  omega
abbrev En3 := Bg × Int × Nat
def enW (E : List En3) : List (Value × V × Nat) := E.map fun e => (kyB e.1, .int .i64 e.2.1, e.2.2)
theorem enW_find (E : List En3) (p : Bg) (em : Bool) : findAt Try.prog em 121 (kyB p) (enW E) = some ((E.map fun e => toI e.1).findIdx? fun a => decide (toI p = a)) := by
  have hk : (enW E).map (·.1) = (E.map fun e => toI e.1).map (pairV .i64 .u16) := by unfold enW; rw [List.map_map, List.map_map]; rfl
  exact findAt_ok beg_keys em (toI p) _ hk
theorem enW_no {E : List En3} {p : Bg} (h : ∀ e ∈ E, e.1 ≠ p) (em : Bool) : findAt Try.prog em 121 (kyB p) (enW E) = some none := by
  rw [enW_find]
  congr 1
  refine List.findIdx?_eq_none_iff.2 fun x hx => ?_
  obtain ⟨e, he, rfl⟩ := List.mem_map.1 hx
  exact decide_eq_false fun hc => h e he (toI_inj hc).symm
theorem enW_yes {E : List En3} {p : Bg} {j : Nat} {e : En3} (hj : E[j]? = some e) (he : e.1 = p) (hn : ∀ i e', i < j → E[i]? = some e' → e'.1 ≠ p) (em : Bool) : findAt Try.prog em 121 (kyB p) (enW E) = some (some j) := by
  rw [enW_find]
  congr 1
  have hlt := (List.getElem?_eq_some_iff.1 hj).1
  refine List.findIdx?_eq_some_iff_getElem.2 ⟨by rw [List.length_map]; exact hlt, ?_, fun i hi => ?_⟩
  · rw [List.getElem_map]
    have : E[j] = e := by rw [List.getElem?_eq_getElem hlt] at hj; exact Option.some.inj hj
    rw [this, he]; exact decide_eq_true rfl
  · rw [List.getElem_map]
    have h1 := hn i E[i] hi (List.getElem?_eq_getElem (by omega))
    simp only [Bool.not_eq_true, decide_eq_false_iff_not]
    exact fun hc => h1 (toI_inj hc).symm
theorem enW_app (E F : List En3) : enW (E ++ F) = enW E ++ enW F := by unfold enW; rw [List.map_append]
theorem enW_len (E : List En3) : (enW E).length = E.length := by unfold enW; rw [List.length_map]
theorem enW_lt (n : Nat) (E : List En3) (c : Nat) : ltB n (.map (enW E) c) := fun e he => by
  obtain ⟨x, _, rfl⟩ := List.mem_map.1 he; rfl
theorem enW_sub {ρ : Nat → Nat} (E : List En3) (c : Nat) : SubQ ρ (.map (enW E) c) (.map (enW E) c) := .map (by
  unfold enW; rw [List.map_map]; exact List.map_congr_left fun e _ => rfl)
/-- The stamp of the last entry. -/
theorem enW_stamp {E : List En3} {p : Bg} {t : Int} {c : Nat} (h : ∀ e ∈ E, e.2.2 < c) : stampAt (Int.ofNat c) (enW (E ++ [(p, t, c)])) = some E.length := by
  unfold stampAt
  have hl : (enW (E ++ [(p, t, c)])).length = E.length + 1 := by rw [enW_len]; simp
  refine List.findIdx?_eq_some_iff_getElem.2 ⟨by omega, ?_, fun i hi => ?_⟩
  · have : (enW (E ++ [(p, t, c)]))[E.length]? = some (kyB p, .int .i64 t, c) := by rw [enW_app, List.getElem?_append_right (by rw [enW_len]; omega), enW_len, Nat.sub_self]; rfl
    rw [(List.getElem?_eq_some_iff.1 this).2, ieq_eq]
    simp
  · have hlt : i < (enW E).length := by rw [enW_len]; exact hi
    have : (enW (E ++ [(p, t, c)]))[i]? = (enW E)[i]? := by rw [enW_app, List.getElem?_append_left hlt]
    have h2 : (enW E)[i]? = some (enW E)[i] := List.getElem?_eq_getElem hlt
    rw [h2] at this
    rw [(List.getElem?_eq_some_iff.1 this).2, ieq_eq]
    have hm := List.getElem_mem hlt
    obtain ⟨x, hx, hxe⟩ := List.mem_map.1 hm
    have := h x hx
    rw [← hxe]
    simp
    omega
end Go.Proofs.J

namespace Go.Proofs.J
open Go.As
set_option maxRecDepth 20000
set_option linter.unusedVariables false
set_option linter.unusedSimpArgs false

/-! ### Beginnings come before those that are longer -/

structure Bz (S : Nat) (br : Nat → Nat) (q : List Bg) (i : Nat) : Prop where
  b : Bq S q
  mo : ∀ (u v : Nat) (p r : Bg), u < v → q.reverse[u]? = some p → q.reverse[v]? = some r → p.1 ≤ r.1
  tp : ∀ (p : Bg), q.reverse[i]? = some p → ∀ r ∈ q, r.1 ≤ p.1 + 1
  cl : ∀ (u : Nat) (p : Bg), u < i → q.reverse[u]? = some p → ∀ x, x < S → elB br p.2 x = true → loB p x ∈ q
theorem rev_cons_at {q : List Bg} {a : Bg} {u : Nat} {p : Bg} (h : (a :: q).reverse[u]? = some p) : q.reverse[u]? = some p ∨ (u = q.length ∧ p = a) := by
  rw [List.reverse_cons] at h
  by_cases hu : u < q.reverse.length
  · rw [List.getElem?_append_left hu] at h; exact .inl h
  · rw [List.getElem?_append_right (by omega)] at h
    rw [List.length_reverse] at h hu
    have hlt := (List.getElem?_eq_some_iff.1 h).1
    simp at hlt
    have hu2 : u = q.length := by omega
    rw [hu2, Nat.sub_self] at h
    simp at h
    exact .inr ⟨hu2, h.symm⟩
theorem rev_keep {q : List Bg} {a : Bg} {u : Nat} {p : Bg} (h : q.reverse[u]? = some p) : (a :: q).reverse[u]? = some p := by
  have hu := (List.getElem?_eq_some_iff.1 h).1
  rw [List.reverse_cons, List.getElem?_append_left hu]; exact h
theorem Bz.add {S : Nat} {br : Nat → Nat} {q : List Bg} {i : Nat} (z : Bz S br q i) {p : Bg} (hp : q.reverse[i]? = some p) {x : Nat} (hx : x < S) (he : elB br p.2 x = true) (hn : loB p x ∉ q) : Bz S br (loB p x :: q) i := by
  have hpm : p ∈ q := List.mem_reverse.1 (List.mem_of_getElem? hp)
  have htp := z.tp p hp
  refine ⟨z.b.cons hpm hx he hn, fun u v p' r' huv hu hv => ?_, fun p' hp' r hr => ?_, fun u p' hu hp' y hy hey => ?_⟩
  · rcases rev_cons_at hv with hv | ⟨_, rfl⟩
    · rcases rev_cons_at hu with hu | ⟨hul, _⟩
      · exact z.mo u v p' r' huv hu hv
      · have := (List.getElem?_eq_some_iff.1 hv).1
        rw [List.length_reverse] at this
        omega
    · rcases rev_cons_at hu with hu | ⟨hul, _⟩
      · have h1 := htp p' (List.mem_reverse.1 (List.mem_of_getElem? hu))
        exact h1
      · omega
  · have e : p' = p := by
      have h1 := rev_keep (a := loB p x) hp
      rw [h1] at hp'; exact (Option.some.inj hp').symm
    subst e
    rcases List.mem_cons.1 hr with rfl | hr
    · exact Nat.le_refl _
    · exact htp r hr
  · rcases rev_cons_at hp' with hp' | ⟨hul, _⟩
    · exact List.mem_cons_of_mem _ (z.cl u p' hu hp' y hy hey)
    · have := (List.getElem?_eq_some_iff.1 hp).1
      rw [List.length_reverse] at this
      omega
theorem Bz.inQ {S : Nat} {br : Nat → Nat} {q : List Bg} {i : Nat} (z : Bz S br q i) {p : Bg} (hp : q.reverse[i]? = some p) : ∀ x, x ≤ S → Bz S br (inQ br p q x) i ∧ (inQ br p q x).reverse[i]? = some p ∧ ∀ y, y < x → elB br p.2 y = true → loB p y ∈ inQ br p q x
  | 0, _ => ⟨z, hp, fun y hy => absurd hy (Nat.not_lt_zero _)⟩
  | x + 1, hx => by
    obtain ⟨h1, h2, h3⟩ := Bz.inQ z hp x (by omega)
    unfold Go.Proofs.J.inQ
    split
    · rename_i h
      refine ⟨h1.add h2 (by omega) h.1 h.2, rev_keep h2, fun y hy hey => ?_⟩
      by_cases e : y = x
      · subst e; exact List.mem_cons_self
      · exact List.mem_cons_of_mem _ (h3 y (by omega) hey)
    · rename_i h
      refine ⟨h1, h2, fun y hy hey => ?_⟩
      by_cases e : y = x
      · subst e
        apply Classical.byContradiction
        intro hc
        exact h ⟨hey, hc⟩
      · exact h3 y (by omega) hey
theorem Bz.next {S : Nat} {br : Nat → Nat} {q : List Bg} {i : Nat} (z : Bz S br q i) {p : Bg} (hp : q.reverse[i]? = some p) : Bz S br (Go.Proofs.J.inQ br p q S) (i + 1) := by
  obtain ⟨h1, h2, h3⟩ := z.inQ hp S (Nat.le_refl _)
  refine ⟨h1.b, h1.mo, fun r hr s hs => ?_, fun u r hu hr y hy hey => ?_⟩
  · have a1 := h1.tp p h2 s hs
    have a2 := h1.mo i (i + 1) p r (by omega) h2 hr
    omega
  · by_cases e : u = i
    · subst e
      rw [h2] at hr
      cases hr
      exact h3 y hy hey
    · exact h1.cl u r (by omega) hr y hy hey
theorem bfI_bz {S : Nat} (hS : S ≤ 10) {br : Nat → Nat} : ∀ (f i : Nat) (q : List Bg), Bz S br q i → 1025 ≤ f + i → ∃ i', Bz S br (bfI br S f i q) i' ∧ (bfI br S f i q).length ≤ i'
  | 0, i, q, z, h => ⟨i, z, by have := (z.b.len hS).2; show q.length ≤ i; omega⟩
  | f + 1, i, q, z, h => by
    unfold bfI
    split
    · rename_i hi
      obtain ⟨p, hp⟩ : ∃ p, q.reverse[i]? = some p := ⟨_, List.getElem?_eq_getElem (by rw [List.length_reverse]; exact hi)⟩
      rw [List.getD_eq_getElem?_getD, hp]
      exact bfI_bz hS f (i + 1) _ (z.next hp) (by omega)
    · rename_i hi; exact ⟨i, z, by omega⟩
/-- All beginnings: each longer one that may come of one lies behind it. -/
theorem bgs_next {S : Nat} (hS : S ≤ 10) {br : Nat → Nat} {j : Nat} {p : Bg} (hp : (bgs br S).reverse[j]? = some p) {x : Nat} (hx : x < S) (he : elB br p.2 x = true) : ∃ i, j < i ∧ (bgs br S).reverse[i]? = some (loB p x) := by
  have z0 : Bz S br [(0, 0)] 0 := by
    refine ⟨Bq.begin S, fun u v p r huv hu hv => ?_, fun p hp r hr => ?_, fun u p hu => absurd hu (Nat.not_lt_zero _)⟩
    · have := (List.getElem?_eq_some_iff.1 hv).1
      simp at this; omega
    · rw [List.mem_singleton.1 hr]; exact Nat.zero_le _
  obtain ⟨i', z, hl⟩ := bfI_bz hS 1025 0 _ z0 (by omega)
  have hj := (List.getElem?_eq_some_iff.1 hp).1
  rw [List.length_reverse] at hj
  have hm := z.cl j p (by unfold bgs at hj; omega) hp x hx he
  obtain ⟨i, hi⟩ := List.getElem?_of_mem (List.mem_reverse.2 hm)
  refine ⟨i, ?_, hi⟩
  rcases Nat.lt_trichotomy i j with h | h | h
  · have := z.mo i j _ _ h hi hp
    have : p.1 + 1 ≤ p.1 := this
    omega
  · subst h
    have e : (some p : Option Bg) = some (loB p x) := hp.symm.trans hi
    have := congrArg Prod.fst (Option.some.inj e)
    have : p.1 = p.1 + 1 := this
    omega
  · exact h
end Go.Proofs.J

namespace Go.Proofs.J
open Go.As
set_option maxRecDepth 20000
set_option linter.unusedVariables false
set_option linter.unusedSimpArgs false

/-! ### The ways that are kept -/

/-- The ways of all beginnings from the c-th on, but for those that cannot be completed. -/
structure WM (br : Nat → Nat) (S : Nat) (F : List Bg) (c : Nat) (E : List En3) (cl : Nat) : Prop where
  nd : (E.map (·.1)).Nodup
  va : ∀ e ∈ E, e.2.1 = wB br S e.1 ∧ e.2.1 ≠ 0 ∧ ∃ i, c ≤ i ∧ F.reverse[i]? = some e.1
  al : ∀ i p, c ≤ i → F.reverse[i]? = some p → wB br S p ≠ 0 → ∃ e ∈ E, e.1 = p
  st : ∀ e ∈ E, e.2.2 < cl
section
variable {br : Nat → Nat} {S : Nat} {F : List Bg} {c : Nat} {E : List En3} {cl : Nat}
theorem nodup_first : ∀ {l : List Bg} {i j : Nat} {p : Bg}, l.Nodup → l[j]? = some p → i < j → l[i]? ≠ some p
  | [], _, _, _, _, h, _ => by simp at h
  | a :: l, i, j, p, hd, hj, hij => by
    rw [List.nodup_cons] at hd
    cases j with
    | zero => omega
    | succ j =>
      rw [List.getElem?_cons_succ] at hj
      cases i with
      | zero =>
        intro h
        rw [List.getElem?_cons_zero] at h
        have := Option.some.inj h
        subst this
        exact hd.1 (List.mem_of_getElem? hj)
      | succ i =>
        rw [List.getElem?_cons_succ]
        exact nodup_first hd.2 hj (by omega)
/-- What is found under a beginning that lies from there on. -/
theorem WM.find (w : WM br S F c E cl) {i : Nat} {p : Bg} (hi : c ≤ i) (hp : F.reverse[i]? = some p) (G : List En3) (hG : ∀ e ∈ G, e.1 ≠ p) :
    (wB br S p ≠ 0 ∧ ∃ j z, (∀ em, findAt Try.prog em 121 (kyB p) (enW (E ++ G)) = some (some j)) ∧ (enW (E ++ G))[j]? = some (kyB p, .int .i64 (wB br S p), z)) ∨
    (wB br S p = 0 ∧ ∀ em, findAt Try.prog em 121 (kyB p) (enW (E ++ G)) = some none) := by
  by_cases h0 : wB br S p = 0
  · refine .inr ⟨h0, fun em => enW_no (fun e he => ?_) em⟩
    rcases List.mem_append.1 he with he | he
    · intro hc
      obtain ⟨h1, h2, _⟩ := w.va e he
      rw [hc, h0] at h1
      exact h2 h1
    · exact hG e he
  · obtain ⟨e, he, hep⟩ := w.al i p hi hp h0
    obtain ⟨j, hj⟩ := List.getElem?_of_mem he
    have hjl := (List.getElem?_eq_some_iff.1 hj).1
    have hj2 : (E ++ G)[j]? = some e := by rw [List.getElem?_append_left hjl]; exact hj
    obtain ⟨e1, e2, e3⟩ := e
    dsimp only at hep
    subst hep
    have hv := (w.va _ he).1
    dsimp only at hv
    subst hv
    refine .inl ⟨h0, j, e3, fun em => enW_yes hj2 rfl (fun i' e' hi' he' hc => ?_) em, ?_⟩
    · rw [List.getElem?_append_left (by omega)] at he'
      refine nodup_first w.nd (i := i') (j := j) (p := e1) (by rw [List.getElem?_map, hj]; rfl) hi' ?_
      rw [List.getElem?_map, he']
      show some e'.1 = _
      rw [hc]
    · unfold enW
      rw [List.getElem?_map, hj2]; rfl
theorem WM.cong (w : WM br S F (c + 1) E cl) {p : Bg} (hp : F.reverse[c]? = some p) (h0 : wB br S p = 0) {cl' : Nat} (h : cl ≤ cl') : WM br S F c E cl' where
  nd := w.nd
  va := fun e he => by obtain ⟨h1, h2, i, h3, h4⟩ := w.va e he; exact ⟨h1, h2, i, by omega, h4⟩
  al := fun i r hi hr hne => by
    by_cases e : i = c
    · subst e; rw [hp] at hr; cases hr; exact absurd h0 hne
    · exact w.al i r (by omega) hr hne
  st := fun e he => by have := w.st e he; omega
theorem WM.add (hF : F.reverse.Nodup) (w : WM br S F (c + 1) E cl) {p : Bg} (hp : F.reverse[c]? = some p) (h0 : wB br S p ≠ 0) : WM br S F c (E ++ [(p, wB br S p, cl)]) (cl + 1) where
  nd := by
    rw [List.map_append]
    refine List.nodup_append.2 ⟨w.nd, by simp, fun a ha b hb => ?_⟩
    simp at hb
    subst hb
    intro hc
    obtain ⟨e, he, hea⟩ := List.mem_map.1 ha
    obtain ⟨_, _, i, h3, h4⟩ := w.va e he
    rw [hea, hc] at h4
    exact nodup_first hF h4 (by omega : c < i) hp
  va := fun e he => by
    rcases List.mem_append.1 he with he | he
    · obtain ⟨h1, h2, i, h3, h4⟩ := w.va e he; exact ⟨h1, h2, i, by omega, h4⟩
    · rw [List.mem_singleton.1 he]; exact ⟨rfl, h0, c, Nat.le_refl _, hp⟩
  al := fun i r hi hr hne => by
    by_cases e : i = c
    · subst e; rw [hp] at hr; cases hr; exact ⟨_, List.mem_append_right _ (List.mem_singleton.2 rfl), rfl⟩
    · obtain ⟨e, he, h⟩ := w.al i r (by omega) hr hne; exact ⟨e, List.mem_append_left _ he, h⟩
  st := fun e he => by
    rcases List.mem_append.1 he with he | he
    · have := w.st e he; omega
    · rw [List.mem_singleton.1 he]; show cl < cl + 1; omega
theorem WM.self (hF : F.reverse.Nodup) (w : WM br S F (c + 1) E cl) {p : Bg} (hp : F.reverse[c]? = some p) : ∀ e ∈ E, e.1 ≠ p := fun e he hc => by
  obtain ⟨_, _, i, h3, h4⟩ := w.va e he
  rw [hc] at h4
  exact nodup_first hF h4 (by omega : c < i) hp
end
/-- The sum so far of the ways of a beginning. -/
def ttB (br : Nat → Nat) (S : Nat) (p : Bg) (k : Nat) : Int := (if p.1 = S then 1 else 0) + smZ k fun x => if elB br p.2 x = true then wB br S (loB p x) else 0
theorem pcN_all {g : Nat} : ∀ {n : Nat}, pcN g n = n → ∀ x, x < n → g.testBit x = true
  | 0, _, x, hx => by omega
  | n + 1, h, x, hx => by
    unfold pcN at h
    have h1 := pcN_le g n
    by_cases hb : g.testBit n = true
    · rw [if_pos hb] at h
      by_cases e : x = n
      · subst e; exact hb
      · exact pcN_all (n := n) (by omega) x (by omega)
    · rw [if_neg hb] at h; omega
theorem smZ_zero {f : Nat → Int} : ∀ n, (∀ k, k < n → f k = 0) → smZ n f = 0
  | 0, _ => rfl
  | n + 1, h => by unfold smZ; rw [smZ_zero n fun k hk => h k (by omega), h n (by omega)]; rfl
theorem smZ_congr {f g : Nat → Int} : ∀ n, (∀ k, k < n → f k = g k) → smZ n f = smZ n g
  | 0, _ => rfl
  | n + 1, h => by unfold smZ; rw [smZ_congr n fun k hk => h k (by omega), h n (by omega)]
theorem ttB_end {br : Nat → Nat} {S : Nat} {p : Bg} (hpc : p.1 = pcN p.2 S) : ttB br S p S = wB br S p := by
  unfold ttB wB
  by_cases h : p.1 = S
  · rw [if_pos h, h, Nat.sub_self, smZ_zero S fun x hx => ?_]
    · rfl
    · have hb := pcN_all (by rw [← hpc]; exact h) x hx
      unfold elB
      rw [hb]; rfl
  · rw [if_neg h, Int.zero_add]
    have hle := pcN_le p.2 S
    obtain ⟨m, hm⟩ : ∃ m, S - p.1 = m + 1 := ⟨S - p.1 - 1, by omega⟩
    rw [hm]
    show _ = smZ S _
    refine smZ_congr S fun x hx => ?_
    have : S - (loB p x).1 = m := by show S - (p.1 + 1) = m; omega
    rw [this]
    rfl
theorem ttB_rng {br : Nat → Nat} {S : Nat} (hS : S ≤ 10) (p : Bg) {k : Nat} (hk : k ≤ S) : 0 ≤ ttB br S p k ∧ ttB br S p k ≤ 100000000001 := by
  have h := smZ_le (B := 10000000000) k (f := fun x => if elB br p.2 x = true then wB br S (loB p x) else 0) fun x _ => by
    have := wB_rng (br := br) hS (loB p x)
    (try dsimp only)
    constructor <;> (split <;> omega)
  have h2 : (k : Int) * 10000000000 ≤ 10 * 10000000000 := Int.mul_le_mul_of_nonneg_right (by omega) (by decide)
  unfold ttB
  split <;> omega
theorem set_last (E : List En3) (p : Bg) (t u : Int) (c : Nat) : (enW (E ++ [(p, t, c)])).set E.length (kyB p, .int .i64 u, c) = enW (E ++ [(p, u, c)]) := by
  rw [enW_app, enW_app, List.set_append_right _ _ (by rw [enW_len]; omega), enW_len, Nat.sub_self]
  rfl
theorem last_at (E : List En3) (p : Bg) (t : Int) (c : Nat) : (enW (E ++ [(p, t, c)]))[E.length]? = some (kyB p, .int .i64 t, c) := by
  rw [enW_app, List.getElem?_append_right (by rw [enW_len]; omega), enW_len, Nat.sub_self]; rfl
theorem last_find {E : List En3} {p : Bg} {t : Int} {c : Nat} (h : ∀ e ∈ E, e.1 ≠ p) (em : Bool) : findAt Try.prog em 121 (kyB p) (enW (E ++ [(p, t, c)])) = some (some E.length) :=
  enW_yes (e := (p, t, c)) (by rw [List.getElem?_append_right (by omega), Nat.sub_self]; rfl) rfl (fun i e' hi he' => by rw [List.getElem?_append_left hi] at he'; exact h e' (List.mem_of_getElem? he')) em
theorem last_erase (E : List En3) (p : Bg) (t : Int) (c : Nat) : (enW (E ++ [(p, t, c)])).eraseIdx E.length = enW E := by
  rw [enW_app, List.eraseIdx_append_of_length_le (by rw [enW_len]; omega), enW_len, Nat.sub_self]
  show enW E ++ [] = _
  rw [List.append_nil]
theorem lk_val {es : List (Value × V × Nat)} {key : Value} {j : Nat} {e : Value × V × Nat} (h1 : ∀ em, findAt Try.prog em 121 key es = some (some j)) (h2 : es[j]? = some e) :
    (match findAt Try.prog es.isEmpty 121 key es with
      | some (some j) => (match es[j]? with
        | some en => some (if false = true then V.tup [en.2.1, .bool true] else en.2.1)
        | none => none)
      | some none => some (if false = true then V.tup [.int .i64 0, .bool false] else .int .i64 0)
      | none => none) = some e.2.1 := by
  rw [h1]; dsimp only; rw [h2]; rfl
theorem lk_no {es : List (Value × V × Nat)} {key : Value} (h1 : ∀ em, findAt Try.prog em 121 key es = some none) :
    (match findAt Try.prog es.isEmpty 121 key es with
      | some (some j) => (match es[j]? with
        | some en => some (if false = true then V.tup [en.2.1, .bool true] else en.2.1)
        | none => none)
      | some none => some (if false = true then V.tup [.int .i64 0, .bool false] else .int .i64 0)
      | none => none) = some (.int .i64 0) := by
  rw [h1]; rfl
theorem same_key (p : Bg) : Instr.sameBits 10000 (kyB p) (kyB p) = true := by
  unfold kyB pairV
  simp [Instr.sameBits]
end Go.Proofs.J

namespace Go.Proofs.J
open Go.As
set_option maxRecDepth 20000
set_option linter.unusedVariables false
set_option linter.unusedSimpArgs false

theorem bgS_form {F : List Bg} (h : F ≠ []) (b : Nat) : ∃ ex gg, bgV b F.length = .sl b 0 F.length F.length ex ∧ bgB (gR eB F) F.length = .cells (ofL (gR eB F) 0) true gg := by
  match F, h with
  | [x], _ => exact ⟨true, none, rfl, rfl⟩
  | x :: y :: q, _ => exact ⟨false, _, rfl, rfl⟩
set_option maxHeartbeats 16000000 in
theorem count_ok (h : As.H) (s S : Nat) (hS : 1 ≤ S ∧ S ≤ 10) (lv : V) (hl : bare0 lv = true) (lk br : Nat → Nat) (hT : Tb br) (mk : Nat → Bool) {w : Bool} {g : Option (Nat × Nat)} (hs : h.get s = some (.cells (ofL (skL S lv lk br mk) 0) w g)) :
    CallOk Try.prog 67 [.ptr s 0, .fn 68 [] []] h (.int .i64 (wN br S S 0)) h := by
  have hlt : ∀ n, ltB n (.cells (ofL (skL S lv lk br mk) 0) false none) := fun n => ltB_ofLb (skL_bare hl)
  have hBare : ∀ v ∈ skL S lv lk br mk, bare0 v = true := skL_bare hl
  have hb := bgs_ok br S
  have hlen := hb.len hS.2
  have hFne : bgs br S ≠ [] := fun e => by rw [e] at hlen; exact absurd hlen.1 (by decide)
  obtain ⟨ex, gg, hv, hB⟩ := bgS_form hFne 5
  have kBg : ∀ (h' : As.H), 5 = h'.n + 0 → h'.get 0 = some (.cells (ofL (skL S lv lk br mk) 0) false none) → _ := fun h' e hs' => by
    have := beg_new h' 0 S hS lv hl lk br hT mk hs'
    rw [← e, hv, hB] at this
    exact this
  have hnx := fun j (p : Bg) (hp : (bgs br S).reverse[j]? = some p) x hx he => bgs_next hS.2 hp (x := x) hx he
  clear hv hB
  generalize bgs br S = F at *
  refine CallOk.run Try.func67 rfl rfl (argsC := [.ptr 0 0, .fn 68 [] []]) (Nat.le_of_ble_eq_true rfl) [some (s, 0)] (.cons (.ptr (i := 0) rfl) (.cons (.lt0 rfl) .nil)) (one_view hs (skL_bare hl)) rfl (WpR.of_vc ?_)
  (conv => whnf); (repeat' (first | ((with_reducible refine ifb_mk (fun hc => ?_) (fun hc => ?_)) <;> ((try simp only [decide_eq_true_eq, decide_eq_false_iff_not, Bool.not_eq_true', Bool.not_eq_false', Int.not_lt, Int.not_le, ne_eq, Decidable.not_not, beq_iff_eq, List.cons.injEq, and_true] at hc); (first | (exfalso; omega) | exact absurd True.intro hc | conv => whnf))) | ((with_reducible refine And.intro True.intro ?_); conv => whnf) | ((with_reducible refine CallX.all ?_); refine CallW.of_ok (kBg _ (by rfl) rfl) ?_; conv => whnf) | ((with_reducible refine CallX.all (f := 97) ?_); refine CallW.inline Try.func97 rfl rfl (Nat.le_of_ble_eq_true rfl) (WpR.of_vc ?_); conv => whnf) | ((with_reducible refine RangeX.all ?_); conv => whnf) | ((with_reducible refine CallW.inline (f := 110) Try.func110 rfl rfl (Nat.le_of_ble_eq_true rfl) (WpR.of_vc ?_)); conv => whnf) | ((with_reducible refine And.intro ?hh ?_); (case hh => exact condA); conv => whnf) | fail))
  have hMap : ∀ E c, ltB 9 (.map (enW E) c) := fun E c => enW_lt 9 E c
  have hMap2 : ∀ E c, ltB 1000 (.map (enW E) c) := fun E c => enW_lt 1000 E c
  have hMapX := hlt 9
  have hMapY := hlt 1000
  have hFl : ltB 9 (.cells (ofL (gR eB F) 0) true gg) := ltB_ofLb (gB_bare _)
  have hFl2 : ltB 1000 (.cells (ofL (gR eB F) 0) true gg) := ltB_ofLb (gB_bare _)
  have hsE : SubQ (rho []) (.map (enW []) 0) (.map [] 0) := enW_sub [] 0
  have hndF : F.reverse.Nodup := by
    have h1 : F.Nodup := List.Pairwise.of_map (fun p : Bg => p.2) (fun a b h e => h (congrArg _ e)) hb.nd
    exact List.pairwise_reverse.2 (h1.imp fun h => Ne.symm h)
  refine WpR.loopGA 1 (ι := Nat × (List En3 × Nat)) [] [0, 1] [3] [] 9 (fun p => [(3, .int .i64 ((p.1 : Int) - 1))]) (fun p => [(3, .map (enW p.2.1) p.2.2)]) (fun p => p.1) (fun p => p.1 ≤ F.length ∧ WM br S F p.1 p.2.1 p.2.2) ?_ ((F.length, ([], 0))) (⟨Nat.le_refl _, ⟨List.nodup_nil, fun e he => absurd he (by simp), fun i p hi hp => absurd (List.getElem?_eq_some_iff.1 hp).1 (by rw [List.length_reverse]; dsimp only at hi; omega), fun e he => absurd he (by simp)⟩⟩) [] ⟨rfl, rfl, (by (repeat' (first | exact True.intro | rfl | exact gr_ren rfl | exact aV_ren rfl | exact aW_ren rfl rfl | refine And.intro ?_ ?_))), (by (repeat' (first | exact True.intro | rfl | exact gr_ren rfl | exact aV_ren rfl | exact aW_ren rfl rfl | refine And.intro ?_ ?_))), (by (repeat' (first | exact True.intro | rfl | exact gr_ren rfl | exact aV_ren rfl | exact aW_ren rfl rfl | refine And.intro ?_ ?_))), ⟨.inr ⟨_, rfl, hsE⟩, trivial⟩, rfl, rfl⟩
  rintro ⟨c, E, cl⟩ ⟨hc, wm⟩
  dsimp only at hc wm
  refine WpR.of_vc ?_
  cases c with
  | zero =>
    have hroot : F.reverse[0]? = some (0, 0) := by rw [← List.head?_eq_getElem?]; exact hb.ro
    have hf := wm.find (Nat.le_refl _) hroot [] (fun e he => absurd he (by simp))
    rw [List.append_nil] at hf
    have hW : wB br S (0, 0) = wN br S S 0 := rfl
    rcases hf with ⟨h1, j, z, f1, f2⟩ | ⟨h1, f1⟩
    · (conv => whnf); (repeat' (first | ((with_reducible refine ifb_mk (fun hc => ?_) (fun hc => ?_)) <;> ((try simp only [decide_eq_true_eq, decide_eq_false_iff_not, Bool.not_eq_true', Bool.not_eq_false', Int.not_lt, Int.not_le, ne_eq, Decidable.not_not, beq_iff_eq, List.cons.injEq, and_true] at hc); (first | (exfalso; omega) | exact absurd True.intro hc | conv => whnf))) | ((with_reducible refine And.intro True.intro ?_); conv => whnf) | (refine som_mk (f1 _) ?_; conv => whnf) | (refine som_mk (f2) ?_; conv => whnf) | ((with_reducible refine And.intro ?hh ?_); (case hh => exact condA); conv => whnf) | fail))
      all_goals (refine ⟨[], ?_, rfl, rfl, trivial, trivs⟩; simp only [renV, renL]; (first | done | rfl))
    · rw [hW] at h1
      (conv => whnf); (repeat' (first | ((with_reducible refine ifb_mk (fun hc => ?_) (fun hc => ?_)) <;> ((try simp only [decide_eq_true_eq, decide_eq_false_iff_not, Bool.not_eq_true', Bool.not_eq_false', Int.not_lt, Int.not_le, ne_eq, Decidable.not_not, beq_iff_eq, List.cons.injEq, and_true] at hc); (first | (exfalso; omega) | exact absurd True.intro hc | conv => whnf))) | ((with_reducible refine And.intro True.intro ?_); conv => whnf) | (refine som_mk (f1 _) ?_; conv => whnf) | ((with_reducible refine And.intro ?hh ?_); (case hh => exact condA); conv => whnf) | fail))
      all_goals (refine ⟨[], ?_, rfl, rfl, trivial, trivs⟩; simp only [renV, renL]; rw [h1])
  | succ c =>
    obtain ⟨p, hp⟩ : ∃ p, F.reverse[c]? = some p := ⟨_, List.getElem?_eq_getElem (by rw [List.length_reverse]; omega)⟩
    have hgN := fun o (ho : o = c * 2) => gB_at hp ho
    have hpm : p ∈ F := List.mem_reverse.1 (List.mem_of_getElem? hp)
    have hp2 := hb.lt p hpm
    have hpc := hb.pc p hpm
    have hp216 : p.2 < 65536 := Nat.lt_of_lt_of_le hp2 (Nat.pow_le_pow_right (n := 2) (by omega) (by omega : S ≤ 16))
    have hpl : p.1 ≤ 10 := by rw [hpc]; have := pcN_le p.2 S; omega
    have hself := wm.self hndF hp
    have n1 := fun em => enW_no hself em
    have hT0 : ttB br S p 0 = if p.1 = S then 1 else 0 := by unfold ttB; show (if p.1 = S then (1 : Int) else 0) + 0 = _; omega
    have hTS : ∀ k, ttB br S p (k + 1) = ttB br S p k + (if elB br p.2 k = true then wB br S (loB p k) else 0) := fun k => by unfold ttB; show _ + (_ + _) = _; rw [Int.add_assoc]
    have hTr := fun k (hk : k ≤ S) => ttB_rng (br := br) hS.2 p hk
    have hTe := ttB_end (br := br) hpc
    have hWr := fun k => wB_rng (br := br) hS.2 (loB p k)
    have hlo : ∀ k, loB p k ≠ p := fun k e => by have := congrArg Prod.fst e; have : p.1 + 1 = p.1 := this; omega
    have hel : ∀ k, elB br p.2 k = (!p.2.testBit k && subB (br k) p.2) := fun k => rfl
    have hfi := fun k (hk : k < S) (he : elB br p.2 k = true) => hnx c p hp k hk he
    have wcong := fun h0 cl' h => wm.cong (cl' := cl') hp h0 h
    have wadd := fun h0 => wm.add hndF hp h0
    have wfind := fun i (q : Bg) hi hq G hG => wm.find (i := i) (p := q) hi hq G hG
    have wst := wm.st
    rw [← hTe] at wcong wadd
    clear wm hTe
    generalize ttB br S p = T at *
    obtain ⟨Me, hM1, hM2⟩ : ∃ Me : Nat × Bool → List (Value × V × Nat), (∀ k, Me (k, true) = enW (E ++ [(p, T k, cl)])) ∧ ∀ k, Me (k, false) = enW E := ⟨fun q => match q with | (k, true) => enW (E ++ [(p, T k, cl)]) | (k, false) => enW E, fun k => rfl, fun k => rfl⟩
    obtain ⟨Mc, hc1, hc2⟩ : ∃ Mc : Bool → Nat, Mc true = cl + 1 ∧ Mc false = cl := ⟨fun q => match q with | true => cl + 1 | false => cl, rfl, rfl⟩
    have hMl : ∀ n (q : Nat × Bool), ltB n (.map (Me q) (Mc q.2)) := fun n q => by
      obtain ⟨k, st⟩ := q
      cases st
      · rw [hM2]; exact enW_lt _ _ _
      · rw [hM1]; exact enW_lt _ _ _
    have hO1 := hMap
    have hO2 := hMap2
    by_cases hlS : p.1 = S
    · rw [if_pos hlS] at hT0
      have hs1 : SubQ (rho []) (.map (Me (0, true)) (Mc true)) (.map (enW E ++ [(kyB p, .int .i64 1, cl)]) (cl + 1)) := by
        have e := enW_app E [(p, (1 : Int), cl)]
        rw [hM1, hc1, hT0, e]
        exact (by have := enW_sub (ρ := rho []) (E ++ [(p, (1 : Int), cl)]) (cl + 1); rw [e] at this; exact this)
      (conv => whnf); (repeat' (first | ((with_reducible refine ifb_mk (fun hc => ?_) (fun hc => ?_)) <;> ((try simp only [decide_eq_true_eq, decide_eq_false_iff_not, Bool.not_eq_true', Bool.not_eq_false', Int.not_lt, Int.not_le, ne_eq, Decidable.not_not, beq_iff_eq, List.cons.injEq, and_true] at hc); (first | (exfalso; omega) | exact absurd True.intro hc | conv => whnf))) | ((with_reducible refine And.intro True.intro ?_); conv => whnf) | ((with_reducible refine grd_getN ?_); refine som_mk (a := ?_) ?hh ?_; (case hh => exact hgN _ (by show 0 + Int.toNat (((c + 1 : Nat) : Int) - 1) * 2 = c * 2; omega)); conv => whnf) | ((with_reducible refine And.intro ?hh ?_); (case hh => exact condA); conv => whnf) | fail))
      refine YldX.all ?_
      refine YldW.inline rfl rfl rfl (WpR.of_vc ?_)
      conv => whnf
      refine ⟨rfl, _, rfl, rfl, WpR.of_vc ?_⟩
      (conv => whnf); (repeat' (first | ((with_reducible refine ifb_mk (fun hc => ?_) (fun hc => ?_)) <;> ((try simp only [decide_eq_true_eq, decide_eq_false_iff_not, Bool.not_eq_true', Bool.not_eq_false', Int.not_lt, Int.not_le, ne_eq, Decidable.not_not, beq_iff_eq, List.cons.injEq, and_true] at hc); (first | (exfalso; omega) | exact absurd True.intro hc | conv => whnf))) | ((with_reducible refine And.intro True.intro ?_); conv => whnf) | ((with_reducible refine WpR.draw (id := 4) mixed [0, 1, 2, 3, 4, 5, 6, 7] [0, 1, 0, 4, 12, 28, 60, 127] ?hh ?_); (case hh => kernel_rfl); conv => whnf) | ((with_reducible refine WpR.draw (id := 9) mixed [0, 1, 2, 3, 4, 5, 6, 7, 8, 9, 10, 11] [0, 0, 3, 0, 0, 0, 48, 120, 255, 251, 763, 2047] ?hh ?_); (case hh => kernel_rfl); conv => whnf) | (refine som_mk (n1 _) ?_; conv => whnf) | ((with_reducible refine grd_and ?_); refine And.intro (hlS) ?_; conv => whnf) | ((with_reducible refine CallX.all (f := 94) ?_); refine CallW.inline Try.func94 rfl rfl (Nat.le_of_ble_eq_true rfl) (WpR.of_vc ?_); conv => whnf) | ((with_reducible refine RangeX.all ?_); conv => whnf) | ((with_reducible refine CallW.inline (f := 109) Try.func109 rfl rfl (Nat.le_of_ble_eq_true rfl) (WpR.of_vc ?_)); conv => whnf) | ((with_reducible refine And.intro ?hh ?_); (case hh => exact condA); conv => whnf) | fail))
      all_goals first | (exfalso; omega) | skip
      clear hMap hMap2
      have hMap := hMl
      have hMapB := hlt 14
      have hMapC : ∀ n, ltB n (.cells (ofL (gR eB F) 0) true gg) := fun n => ltB_ofLb (gB_bare _)
      refine WpR.loopA (ι := Nat × Bool) [] [0, 1, 2, 9] [3] [] 14 (fun q => [(10, .int .i64 q.1)]) (fun q => [(3, .map (Me q) (Mc q.2))]) (fun q => S - q.1) (fun q => q.1 ≤ S ∧ (q.2 = false → T q.1 = 0)) ?_ ((0, true)) (⟨Nat.zero_le _, fun h => (by cases h)⟩) [] ⟨rfl, rfl, (by (repeat' (first | exact True.intro | rfl | exact gr_ren rfl | exact aV_ren rfl | exact aW_ren rfl rfl | refine And.intro ?_ ?_))), (by (repeat' (first | exact True.intro | rfl | exact gr_ren rfl | exact aV_ren rfl | exact aW_ren rfl rfl | refine And.intro ?_ ?_))), (by (repeat' (first | exact True.intro | rfl | exact gr_ren rfl | exact aV_ren rfl | exact aW_ren rfl rfl | refine And.intro ?_ ?_))), ⟨.inr ⟨_, rfl, hs1⟩, trivial⟩, rfl, rfl⟩
      rintro ⟨k, st⟩ ⟨k1, k2⟩
      dsimp only at k1 k2
      refine WpR.of_vc ?_
      by_cases hk : k < S
      · have c1 := fun h' => has_ok h' p.2 k hp216 (by omega)
        have c2 := fun h' => isWithin_ok h' (br k) p.2
        have c3 := fun h' => bwith_ok h' (p.1 : Int) p.2 k (by omega) hp216 (by omega)
        have hgk := fun o (ho : o = 12 + k) => sk_br (S := S) (lv := lv) (lk := lk) (br := br) (mk := mk) ho (by omega : k < 10)
        have hek := hel k
        have hTk := hTS k
        have hTk1 := hTr k k1
        have hWk := hWr k
        have hsame : T (k + 1) = T k → SubQ (rho []) (.map (Me (k + 1, st)) (Mc st)) (.map (Me (k, st)) (Mc st)) := fun e => by
          cases st
          · rw [hM2, hM2]; exact enW_sub _ _
          · rw [hM1, hM1, e]; exact enW_sub _ _
        cases hb1 : p.2.testBit k with
        | true =>
          rw [hb1] at c1 hek
          rw [hek, if_neg (fun h => by cases h), Int.add_zero] at hTk
          (conv => whnf); (repeat' (first | ((with_reducible refine ifb_mk (fun hc => ?_) (fun hc => ?_)) <;> ((try simp only [decide_eq_true_eq, decide_eq_false_iff_not, Bool.not_eq_true', Bool.not_eq_false', Int.not_lt, Int.not_le, ne_eq, Decidable.not_not, beq_iff_eq, List.cons.injEq, and_true] at hc); (first | (exfalso; omega) | exact absurd True.intro hc | conv => whnf))) | ((with_reducible refine And.intro True.intro ?_); conv => whnf) | ((with_reducible refine grd_and ?_); refine And.intro (hk) ?_; conv => whnf) | ((with_reducible refine WpR.drawTail (id := 3) mixed 19 [0, 1, 2, 3, 4, 5, 6, 7, 8, 9, 10, 11, 12, 13, 14, 15, 16, 17, 18] [0, 1, 0, 7, 15, 31, 63, 63, 127, 383, 1023, 2047, 63, 4159, 16383, 32767, 65535, 131071, 131071] ?hh ?hk ?_); (case hh => kernel_rfl); (case hk => kernel_rfl); conv => whnf) | ((with_reducible refine grd_ex ?_); refine ex_ok (c1 _) ?_; conv => whnf) | ((with_reducible refine CallX.all ?_); refine CallW.of_ok (c1 _) ?_; conv => whnf) | ((with_reducible refine grd_ex ?_); refine ex_ok (c2 _) ?_; conv => whnf) | ((with_reducible refine CallX.all ?_); refine CallW.of_ok (c2 _) ?_; conv => whnf) | ((with_reducible refine grd_get ?_); refine som_mk (a := ?_) ?hh ?_; (case hh => exact hgk _ (by show 12 + Int.toNat (k : Int) * 1 = 12 + k; omega)); conv => whnf) | ((with_reducible refine And.intro ?hh ?_); (case hh => exact condA); conv => whnf) | fail))
          all_goals exact ⟨(k + 1, st), [], by dsimp only; omega, ⟨by dsimp only; omega, fun h => by dsimp only; rw [hTk]; exact k2 h⟩, ⟨rfl, rfl, (by (repeat' (first | exact True.intro | rfl | exact gr_ren rfl | exact aV_ren rfl | exact aW_ren rfl rfl | refine And.intro ?_ ?_))), (by (repeat' (first | exact True.intro | rfl | exact gr_ren rfl | exact aV_ren rfl | exact aW_ren rfl rfl | refine And.intro ?_ ?_))), (by (repeat' (first | exact True.intro | rfl | exact gr_ren rfl | exact aV_ren rfl | exact aW_ren rfl rfl | refine And.intro ?_ ?_))), ⟨.inr ⟨_, rfl, hsame hTk⟩, trivial⟩, rfl, rfl⟩⟩
        | false =>
          rw [hb1] at c1 hek
          cases hsb : subB (br k) p.2 with
          | false =>
            rw [hsb] at c2 hek
            rw [hek, if_neg (fun h => by cases h), Int.add_zero] at hTk
            (conv => whnf); (repeat' (first | ((with_reducible refine ifb_mk (fun hc => ?_) (fun hc => ?_)) <;> ((try simp only [decide_eq_true_eq, decide_eq_false_iff_not, Bool.not_eq_true', Bool.not_eq_false', Int.not_lt, Int.not_le, ne_eq, Decidable.not_not, beq_iff_eq, List.cons.injEq, and_true] at hc); (first | (exfalso; omega) | exact absurd True.intro hc | conv => whnf))) | ((with_reducible refine And.intro True.intro ?_); conv => whnf) | ((with_reducible refine grd_and ?_); refine And.intro (hk) ?_; conv => whnf) | ((with_reducible refine WpR.drawTail (id := 3) mixed 19 [0, 1, 2, 3, 4, 5, 6, 7, 8, 9, 10, 11, 12, 13, 14, 15, 16, 17, 18] [0, 1, 0, 7, 15, 31, 63, 63, 127, 383, 1023, 2047, 63, 4159, 16383, 32767, 65535, 131071, 131071] ?hh ?hk ?_); (case hh => kernel_rfl); (case hk => kernel_rfl); conv => whnf) | ((with_reducible refine grd_ex ?_); refine ex_ok (c1 _) ?_; conv => whnf) | ((with_reducible refine CallX.all ?_); refine CallW.of_ok (c1 _) ?_; conv => whnf) | ((with_reducible refine grd_ex ?_); refine ex_ok (c2 _) ?_; conv => whnf) | ((with_reducible refine CallX.all ?_); refine CallW.of_ok (c2 _) ?_; conv => whnf) | ((with_reducible refine grd_get ?_); refine som_mk (a := ?_) ?hh ?_; (case hh => exact hgk _ (by show 12 + Int.toNat (k : Int) * 1 = 12 + k; omega)); conv => whnf) | ((with_reducible refine And.intro ?hh ?_); (case hh => exact condA); conv => whnf) | fail))
            all_goals exact ⟨(k + 1, st), [], by dsimp only; omega, ⟨by dsimp only; omega, fun h => by dsimp only; rw [hTk]; exact k2 h⟩, ⟨rfl, rfl, (by (repeat' (first | exact True.intro | rfl | exact gr_ren rfl | exact aV_ren rfl | exact aW_ren rfl rfl | refine And.intro ?_ ?_))), (by (repeat' (first | exact True.intro | rfl | exact gr_ren rfl | exact aV_ren rfl | exact aW_ren rfl rfl | refine And.intro ?_ ?_))), (by (repeat' (first | exact True.intro | rfl | exact gr_ren rfl | exact aV_ren rfl | exact aW_ren rfl rfl | refine And.intro ?_ ?_))), ⟨.inr ⟨_, rfl, hsame hTk⟩, trivial⟩, rfl, rfl⟩⟩
          | true =>
            rw [hsb] at c2 hek
            have hek : elB br p.2 k = true := hek
            rw [if_pos hek] at hTk
            obtain ⟨i, hi, hpi⟩ := hfi k hk hek
            have hsum : InR (T k + wB br S (loB p k)) := by unfold InR; omega
            cases st with
            | true =>
              have g1 : ∀ em, findAt Try.prog em 121 (kyB p) (Me (k, true)) = some (some E.length) := fun em => by rw [hM1]; exact last_find hself em
              have g2 : (Me (k, true))[E.length]? = some (kyB p, .int .i64 (T k), cl) := by rw [hM1]; exact last_at _ _ _ _
              have g3 : stampAt (Int.ofNat cl) ((Me (k, true)).set E.length (kyB p, .int .i64 (T k), cl)) = some E.length := by rw [hM1, set_last]; exact enW_stamp wst
              have g4 : ((Me (k, true)).set E.length (kyB p, .int .i64 (T k), cl))[E.length]? = some (kyB p, .int .i64 (T k), cl) := by rw [hM1, set_last]; exact last_at _ _ _ _
              have hset : (Me (k, true)).set E.length (kyB p, .int .i64 (T k), cl) = Me (k, true) := by rw [hM1, set_last]
              have g1s : ∀ em, findAt Try.prog em 121 (kyB p) ((Me (k, true)).set E.length (kyB p, .int .i64 (T k), cl)) = some (some E.length) := fun em => by rw [hset]; exact g1 em
              have a1 := (lk_val g1s g4).trans (lk_val g1 g2).symm
              have g5 : ∀ w, T (k + 1) = T k + w → SubQ (rho []) (.map (Me (k + 1, true)) (Mc true)) (.map (((Me (k, true)).set E.length (kyB p, .int .i64 (T k), cl)).set E.length (kyB p, .int .i64 (T k + w), cl)) (Mc true)) := fun w e => by
                rw [hM1, hM1, set_last, set_last, e]; exact enW_sub _ _
              have hfw := wfind i (loB p k) (by omega) hpi [(p, T k, cl)] (fun e he => by rw [List.mem_singleton.1 he]; exact fun h => hlo k h.symm)
              rw [← hM1 k] at hfw
              rcases hfw with ⟨q1, j, z, f1, f2⟩ | ⟨q1, f1⟩
              · have g6 := g5 _ hTk
                -- CASE T1a
                have f1s : ∀ em, findAt Try.prog em 121 (kyB (loB p k)) ((Me (k, true)).set E.length (kyB p, .int .i64 (T k), cl)) = some (some j) := fun em => by rw [hset]; exact f1 em
                have f2s : ((Me (k, true)).set E.length (kyB p, .int .i64 (T k), cl))[j]? = some (kyB (loB p k), .int .i64 (wB br S (loB p k)), z) := by rw [hset]; exact f2
                have a2 := (lk_val f1s f2s).trans (lk_val f1 f2).symm
                (conv => whnf); (repeat' (first | ((with_reducible refine ifb_mk (fun hc => ?_) (fun hc => ?_)) <;> ((try simp only [decide_eq_true_eq, decide_eq_false_iff_not, Bool.not_eq_true', Bool.not_eq_false', Int.not_lt, Int.not_le, ne_eq, Decidable.not_not, beq_iff_eq, List.cons.injEq, and_true] at hc); (first | (exfalso; omega) | exact absurd True.intro hc | conv => whnf))) | ((with_reducible refine And.intro True.intro ?_); conv => whnf) | ((with_reducible refine grd_and ?_); refine And.intro (hk) ?_; conv => whnf) | ((with_reducible refine WpR.drawTail (id := 3) mixed 19 [0, 1, 2, 3, 4, 5, 6, 7, 8, 9, 10, 11, 12, 13, 14, 15, 16, 17, 18] [0, 1, 0, 7, 15, 31, 63, 63, 127, 383, 1023, 2047, 63, 4159, 16383, 32767, 65535, 131071, 131071] ?hh ?hk ?_); (case hh => kernel_rfl); (case hk => kernel_rfl); conv => whnf) | ((with_reducible refine grd_ex ?_); refine ex_ok (c1 _) ?_; conv => whnf) | ((with_reducible refine CallX.all ?_); refine CallW.of_ok (c1 _) ?_; conv => whnf) | ((with_reducible refine grd_ex ?_); refine ex_ok (c2 _) ?_; conv => whnf) | ((with_reducible refine CallX.all ?_); refine CallW.of_ok (c2 _) ?_; conv => whnf) | ((with_reducible refine grd_get ?_); refine som_mk (a := ?_) ?hh ?_; (case hh => exact hgk _ (by show 12 + Int.toNat (k : Int) * 1 = 12 + k; omega)); conv => whnf) | ((with_reducible refine And.intro ?hh ?_); (case hh => exact condA); conv => whnf) | fail))
                refine YldX.all ?_
                refine YldW.inline rfl rfl rfl (WpR.of_vc ?_)
                conv => whnf
                refine ⟨rfl, _, rfl, rfl, WpR.of_vc ?_⟩
                (conv => whnf); (repeat' (first | ((with_reducible refine ifb_mk (fun hc => ?_) (fun hc => ?_)) <;> ((try simp only [decide_eq_true_eq, decide_eq_false_iff_not, Bool.not_eq_true', Bool.not_eq_false', Int.not_lt, Int.not_le, ne_eq, Decidable.not_not, beq_iff_eq, List.cons.injEq, and_true] at hc); (first | (exfalso; omega) | exact absurd True.intro hc | conv => whnf))) | ((with_reducible refine And.intro True.intro ?_); conv => whnf) | ((with_reducible refine CallX.all ?_); refine CallW.of_ok (c3 _) ?_; conv => whnf) | ((with_reducible refine grd_ex ?_); refine ex_ok (c3 _) ?_; conv => whnf) | ((with_reducible refine CallX.all (f := 68) ?_); refine CallW.inline Try.func68 rfl rfl (Nat.le_of_ble_eq_true rfl) (WpR.of_vc ?_); conv => whnf) | ((with_reducible refine WpR.draw (id := 4) mixed [0, 1, 2, 3, 4, 5, 6, 7] [0, 1, 0, 4, 12, 28, 60, 127] ?hh ?_); (case hh => kernel_rfl); conv => whnf) | ((with_reducible refine WpR.draw (id := 9) mixed [0, 1, 2, 3, 4, 5, 6, 7, 8, 9, 10, 11] [0, 0, 3, 0, 0, 0, 48, 120, 255, 251, 763, 2047] ?hh ?_); (case hh => kernel_rfl); conv => whnf) | (refine som_mk (f1 _) ?_; conv => whnf) | (refine som_mk (f2) ?_; conv => whnf) | (refine som_mk (g1 _) ?_; conv => whnf) | (refine som_mk (g2) ?_; conv => whnf) | ((with_reducible refine grd_and ?_); refine And.intro (hsum) ?_; conv => whnf) | ((with_reducible refine grd_and ?_); refine And.intro (same_key p) ?_; conv => whnf) | (refine som_mk (g3) ?_; conv => whnf) | (refine som_mk (g4) ?_; conv => whnf) | (((with_reducible refine And.intro ?hh ?_); (case hh => (conv => whnf); (repeat' (first | exact True.intro | exact a1 | exact a2 | rfl | refine And.intro ?_ ?_)); done)); conv => whnf) | ((with_reducible refine And.intro ?hh ?_); (case hh => exact condA); conv => whnf) | fail))
                refine ⟨_, _, rfl, ?_⟩
                (conv => whnf); (repeat' (first | ((with_reducible refine ifb_mk (fun hc => ?_) (fun hc => ?_)) <;> ((try simp only [decide_eq_true_eq, decide_eq_false_iff_not, Bool.not_eq_true', Bool.not_eq_false', Int.not_lt, Int.not_le, ne_eq, Decidable.not_not, beq_iff_eq, List.cons.injEq, and_true] at hc); (first | (exfalso; omega) | exact absurd True.intro hc | conv => whnf))) | ((with_reducible refine And.intro True.intro ?_); conv => whnf) | ((with_reducible refine And.intro ?hh ?_); (case hh => exact condA); conv => whnf) | fail))
                all_goals exact ⟨(k + 1, true), [], by dsimp only; omega, ⟨by dsimp only; omega, fun h => (by cases h)⟩, ⟨rfl, rfl, (by (repeat' (first | exact True.intro | rfl | exact gr_ren rfl | exact aV_ren rfl | exact aW_ren rfl rfl | refine And.intro ?_ ?_))), (by (repeat' (first | exact True.intro | rfl | exact gr_ren rfl | exact aV_ren rfl | exact aW_ren rfl rfl | refine And.intro ?_ ?_))), (by (repeat' (first | exact True.intro | rfl | exact gr_ren rfl | exact aV_ren rfl | exact aW_ren rfl rfl | refine And.intro ?_ ?_))), ⟨.inr ⟨_, rfl, g6⟩, trivial⟩, rfl, rfl⟩⟩
                -- END T1a
              · rw [q1] at hTk hsum
                -- CASE T2a
                have g6 := g5 _ hTk
                have f1s : ∀ em, findAt Try.prog em 121 (kyB (loB p k)) ((Me (k, true)).set E.length (kyB p, .int .i64 (T k), cl)) = some none := fun em => by rw [hset]; exact f1 em
                have a2 := (lk_no f1s).trans (lk_no f1).symm
                (conv => whnf); (repeat' (first | ((with_reducible refine ifb_mk (fun hc => ?_) (fun hc => ?_)) <;> ((try simp only [decide_eq_true_eq, decide_eq_false_iff_not, Bool.not_eq_true', Bool.not_eq_false', Int.not_lt, Int.not_le, ne_eq, Decidable.not_not, beq_iff_eq, List.cons.injEq, and_true] at hc); (first | (exfalso; omega) | exact absurd True.intro hc | conv => whnf))) | ((with_reducible refine And.intro True.intro ?_); conv => whnf) | ((with_reducible refine grd_and ?_); refine And.intro (hk) ?_; conv => whnf) | ((with_reducible refine WpR.drawTail (id := 3) mixed 19 [0, 1, 2, 3, 4, 5, 6, 7, 8, 9, 10, 11, 12, 13, 14, 15, 16, 17, 18] [0, 1, 0, 7, 15, 31, 63, 63, 127, 383, 1023, 2047, 63, 4159, 16383, 32767, 65535, 131071, 131071] ?hh ?hk ?_); (case hh => kernel_rfl); (case hk => kernel_rfl); conv => whnf) | ((with_reducible refine grd_ex ?_); refine ex_ok (c1 _) ?_; conv => whnf) | ((with_reducible refine CallX.all ?_); refine CallW.of_ok (c1 _) ?_; conv => whnf) | ((with_reducible refine grd_ex ?_); refine ex_ok (c2 _) ?_; conv => whnf) | ((with_reducible refine CallX.all ?_); refine CallW.of_ok (c2 _) ?_; conv => whnf) | ((with_reducible refine grd_get ?_); refine som_mk (a := ?_) ?hh ?_; (case hh => exact hgk _ (by show 12 + Int.toNat (k : Int) * 1 = 12 + k; omega)); conv => whnf) | ((with_reducible refine And.intro ?hh ?_); (case hh => exact condA); conv => whnf) | fail))
                refine YldX.all ?_
                refine YldW.inline rfl rfl rfl (WpR.of_vc ?_)
                conv => whnf
                refine ⟨rfl, _, rfl, rfl, WpR.of_vc ?_⟩
                (conv => whnf); (repeat' (first | ((with_reducible refine ifb_mk (fun hc => ?_) (fun hc => ?_)) <;> ((try simp only [decide_eq_true_eq, decide_eq_false_iff_not, Bool.not_eq_true', Bool.not_eq_false', Int.not_lt, Int.not_le, ne_eq, Decidable.not_not, beq_iff_eq, List.cons.injEq, and_true] at hc); (first | (exfalso; omega) | exact absurd True.intro hc | conv => whnf))) | ((with_reducible refine And.intro True.intro ?_); conv => whnf) | ((with_reducible refine CallX.all ?_); refine CallW.of_ok (c3 _) ?_; conv => whnf) | ((with_reducible refine grd_ex ?_); refine ex_ok (c3 _) ?_; conv => whnf) | ((with_reducible refine CallX.all (f := 68) ?_); refine CallW.inline Try.func68 rfl rfl (Nat.le_of_ble_eq_true rfl) (WpR.of_vc ?_); conv => whnf) | ((with_reducible refine WpR.draw (id := 4) mixed [0, 1, 2, 3, 4, 5, 6, 7] [0, 1, 0, 4, 12, 28, 60, 127] ?hh ?_); (case hh => kernel_rfl); conv => whnf) | ((with_reducible refine WpR.draw (id := 9) mixed [0, 1, 2, 3, 4, 5, 6, 7, 8, 9, 10, 11] [0, 0, 3, 0, 0, 0, 48, 120, 255, 251, 763, 2047] ?hh ?_); (case hh => kernel_rfl); conv => whnf) | (refine som_mk (f1 _) ?_; conv => whnf) | (refine som_mk (g1 _) ?_; conv => whnf) | (refine som_mk (g2) ?_; conv => whnf) | ((with_reducible refine grd_and ?_); refine And.intro (hsum) ?_; conv => whnf) | ((with_reducible refine grd_and ?_); refine And.intro (same_key p) ?_; conv => whnf) | (refine som_mk (g3) ?_; conv => whnf) | (refine som_mk (g4) ?_; conv => whnf) | (((with_reducible refine And.intro ?hh ?_); (case hh => (conv => whnf); (repeat' (first | exact True.intro | exact a1 | exact a2 | rfl | refine And.intro ?_ ?_)); done)); conv => whnf) | ((with_reducible refine And.intro ?hh ?_); (case hh => exact condA); conv => whnf) | fail))
                refine ⟨_, _, rfl, ?_⟩
                (conv => whnf); (repeat' (first | ((with_reducible refine ifb_mk (fun hc => ?_) (fun hc => ?_)) <;> ((try simp only [decide_eq_true_eq, decide_eq_false_iff_not, Bool.not_eq_true', Bool.not_eq_false', Int.not_lt, Int.not_le, ne_eq, Decidable.not_not, beq_iff_eq, List.cons.injEq, and_true] at hc); (first | (exfalso; omega) | exact absurd True.intro hc | conv => whnf))) | ((with_reducible refine And.intro True.intro ?_); conv => whnf) | ((with_reducible refine And.intro ?hh ?_); (case hh => exact condA); conv => whnf) | fail))
                all_goals exact ⟨(k + 1, true), [], by dsimp only; omega, ⟨by dsimp only; omega, fun h => (by cases h)⟩, ⟨rfl, rfl, (by (repeat' (first | exact True.intro | rfl | exact gr_ren rfl | exact aV_ren rfl | exact aW_ren rfl rfl | refine And.intro ?_ ?_))), (by (repeat' (first | exact True.intro | rfl | exact gr_ren rfl | exact aV_ren rfl | exact aW_ren rfl rfl | refine And.intro ?_ ?_))), (by (repeat' (first | exact True.intro | rfl | exact gr_ren rfl | exact aV_ren rfl | exact aW_ren rfl rfl | refine And.intro ?_ ?_))), ⟨.inr ⟨_, rfl, g6⟩, trivial⟩, rfl, rfl⟩⟩
                -- END T2a
            | false =>
              have hTk0 := k2 rfl
              rw [hTk0] at hTk hsum
              have m1 : ∀ em, findAt Try.prog em 121 (kyB p) (Me (k, false)) = some none := fun em => by rw [hM2]; exact n1 em
              have eA : ∀ t : Int, enW E ++ [(kyB p, V.int .i64 t, cl)] = enW (E ++ [(p, t, cl)]) := fun t => (enW_app E [(p, t, cl)]).symm
              have g3 : stampAt (Int.ofNat (Mc false)) (Me (k, false) ++ [(kyB p, V.int .i64 0, Mc false)]) = some E.length := by rw [hM2, hc2, eA]; exact enW_stamp wst
              have g4 : (Me (k, false) ++ [(kyB p, V.int .i64 0, Mc false)])[E.length]? = some (kyB p, .int .i64 0, cl) := by rw [hM2, hc2, eA]; exact last_at _ _ _ _
              have g5 : ∀ w, T (k + 1) = 0 + w → SubQ (rho []) (.map (Me (k + 1, true)) (Mc true)) (.map ((Me (k, false) ++ [(kyB p, V.int .i64 0, Mc false)]).set E.length (kyB p, V.int .i64 (0 + w), cl)) (Mc false + 1)) := fun w e => by
                rw [hM1, hM2, hc1, hc2, eA, set_last, e]; exact enW_sub _ _
              have g1s : ∀ em, findAt Try.prog em 121 (kyB p) (Me (k, false) ++ [(kyB p, V.int .i64 0, Mc false)]) = some (some E.length) := fun em => by rw [hM2, hc2, eA]; exact last_find hself em
              have a1 := (lk_val g1s g4).trans (lk_no m1).symm
              have hfz := wfind i (loB p k) (by omega) hpi [(p, 0, cl)] (fun e he => by rw [List.mem_singleton.1 he]; exact fun h => hlo k h.symm)
              have hfw := wfind i (loB p k) (by omega) hpi [] (fun e he => absurd he (by simp))
              rw [List.append_nil, ← hM2 k] at hfw
              rcases hfw with ⟨q1, j, z, f1, f2⟩ | ⟨q1, f1⟩
              · have g6 := g5 _ hTk
                -- CASE F1a
                obtain ⟨j2, z2, f1t, f2t⟩ : ∃ j2 z2, (∀ em, findAt Try.prog em 121 (kyB (loB p k)) (enW (E ++ [(p, 0, cl)])) = some (some j2)) ∧ (enW (E ++ [(p, 0, cl)]))[j2]? = some (kyB (loB p k), V.int .i64 (wB br S (loB p k)), z2) := by
                  rcases hfz with ⟨_, j2, z2, h1, h2⟩ | ⟨h0, _⟩
                  · exact ⟨j2, z2, h1, h2⟩
                  · exact absurd h0 q1
                have f1s : ∀ em, findAt Try.prog em 121 (kyB (loB p k)) (Me (k, false) ++ [(kyB p, V.int .i64 0, Mc false)]) = some (some j2) := fun em => by rw [hM2, hc2, eA]; exact f1t em
                have f2s : (Me (k, false) ++ [(kyB p, V.int .i64 0, Mc false)])[j2]? = some (kyB (loB p k), V.int .i64 (wB br S (loB p k)), z2) := by rw [hM2, hc2, eA]; exact f2t
                have a2 := (lk_val f1s f2s).trans (lk_val f1 f2).symm
                (conv => whnf); (repeat' (first | ((with_reducible refine ifb_mk (fun hc => ?_) (fun hc => ?_)) <;> ((try simp only [decide_eq_true_eq, decide_eq_false_iff_not, Bool.not_eq_true', Bool.not_eq_false', Int.not_lt, Int.not_le, ne_eq, Decidable.not_not, beq_iff_eq, List.cons.injEq, and_true] at hc); (first | (exfalso; omega) | exact absurd True.intro hc | conv => whnf))) | ((with_reducible refine And.intro True.intro ?_); conv => whnf) | ((with_reducible refine grd_and ?_); refine And.intro (hk) ?_; conv => whnf) | ((with_reducible refine WpR.drawTail (id := 3) mixed 19 [0, 1, 2, 3, 4, 5, 6, 7, 8, 9, 10, 11, 12, 13, 14, 15, 16, 17, 18] [0, 1, 0, 7, 15, 31, 63, 63, 127, 383, 1023, 2047, 63, 4159, 16383, 32767, 65535, 131071, 131071] ?hh ?hk ?_); (case hh => kernel_rfl); (case hk => kernel_rfl); conv => whnf) | ((with_reducible refine grd_ex ?_); refine ex_ok (c1 _) ?_; conv => whnf) | ((with_reducible refine CallX.all ?_); refine CallW.of_ok (c1 _) ?_; conv => whnf) | ((with_reducible refine grd_ex ?_); refine ex_ok (c2 _) ?_; conv => whnf) | ((with_reducible refine CallX.all ?_); refine CallW.of_ok (c2 _) ?_; conv => whnf) | ((with_reducible refine grd_get ?_); refine som_mk (a := ?_) ?hh ?_; (case hh => exact hgk _ (by show 12 + Int.toNat (k : Int) * 1 = 12 + k; omega)); conv => whnf) | ((with_reducible refine And.intro ?hh ?_); (case hh => exact condA); conv => whnf) | fail))
                refine YldX.all ?_
                refine YldW.inline rfl rfl rfl (WpR.of_vc ?_)
                conv => whnf
                refine ⟨rfl, _, rfl, rfl, WpR.of_vc ?_⟩
                (conv => whnf); (repeat' (first | ((with_reducible refine ifb_mk (fun hc => ?_) (fun hc => ?_)) <;> ((try simp only [decide_eq_true_eq, decide_eq_false_iff_not, Bool.not_eq_true', Bool.not_eq_false', Int.not_lt, Int.not_le, ne_eq, Decidable.not_not, beq_iff_eq, List.cons.injEq, and_true] at hc); (first | (exfalso; omega) | exact absurd True.intro hc | conv => whnf))) | ((with_reducible refine And.intro True.intro ?_); conv => whnf) | ((with_reducible refine CallX.all ?_); refine CallW.of_ok (c3 _) ?_; conv => whnf) | ((with_reducible refine grd_ex ?_); refine ex_ok (c3 _) ?_; conv => whnf) | ((with_reducible refine CallX.all (f := 68) ?_); refine CallW.inline Try.func68 rfl rfl (Nat.le_of_ble_eq_true rfl) (WpR.of_vc ?_); conv => whnf) | ((with_reducible refine WpR.draw (id := 4) mixed [0, 1, 2, 3, 4, 5, 6, 7] [0, 1, 0, 4, 12, 28, 60, 127] ?hh ?_); (case hh => kernel_rfl); conv => whnf) | ((with_reducible refine WpR.draw (id := 9) mixed [0, 1, 2, 3, 4, 5, 6, 7, 8, 9, 10, 11] [0, 0, 3, 0, 0, 0, 48, 120, 255, 251, 763, 2047] ?hh ?_); (case hh => kernel_rfl); conv => whnf) | (refine som_mk (f1 _) ?_; conv => whnf) | (refine som_mk (f2) ?_; conv => whnf) | (refine som_mk (m1 _) ?_; conv => whnf) | ((with_reducible refine grd_and ?_); refine And.intro (hsum) ?_; conv => whnf) | ((with_reducible refine grd_and ?_); refine And.intro (same_key p) ?_; conv => whnf) | (refine som_mk (g3) ?_; conv => whnf) | (refine som_mk (g4) ?_; conv => whnf) | (((with_reducible refine And.intro ?hh ?_); (case hh => (conv => whnf); (repeat' (first | exact True.intro | exact a1 | exact a2 | rfl | refine And.intro ?_ ?_)); done)); conv => whnf) | ((with_reducible refine And.intro ?hh ?_); (case hh => exact condA); conv => whnf) | fail))
                refine ⟨_, _, rfl, ?_⟩
                (conv => whnf); (repeat' (first | ((with_reducible refine ifb_mk (fun hc => ?_) (fun hc => ?_)) <;> ((try simp only [decide_eq_true_eq, decide_eq_false_iff_not, Bool.not_eq_true', Bool.not_eq_false', Int.not_lt, Int.not_le, ne_eq, Decidable.not_not, beq_iff_eq, List.cons.injEq, and_true] at hc); (first | (exfalso; omega) | exact absurd True.intro hc | conv => whnf))) | ((with_reducible refine And.intro True.intro ?_); conv => whnf) | ((with_reducible refine And.intro ?hh ?_); (case hh => exact condA); conv => whnf) | fail))
                all_goals exact ⟨(k + 1, true), [], by dsimp only; omega, ⟨by dsimp only; omega, fun h => (by cases h)⟩, ⟨rfl, rfl, (by (repeat' (first | exact True.intro | rfl | exact gr_ren rfl | exact aV_ren rfl | exact aW_ren rfl rfl | refine And.intro ?_ ?_))), (by (repeat' (first | exact True.intro | rfl | exact gr_ren rfl | exact aV_ren rfl | exact aW_ren rfl rfl | refine And.intro ?_ ?_))), (by (repeat' (first | exact True.intro | rfl | exact gr_ren rfl | exact aV_ren rfl | exact aW_ren rfl rfl | refine And.intro ?_ ?_))), ⟨.inr ⟨_, rfl, g6⟩, trivial⟩, rfl, rfl⟩⟩
                -- END F1a
              · rw [q1] at hTk hsum
                -- CASE F2a
                have g6 := g5 _ hTk
                have f1t : ∀ em, findAt Try.prog em 121 (kyB (loB p k)) (enW (E ++ [(p, 0, cl)])) = some none := by
                  rcases hfz with ⟨h0, _⟩ | ⟨_, h1⟩
                  · exact absurd q1 h0
                  · exact h1
                have f1s : ∀ em, findAt Try.prog em 121 (kyB (loB p k)) (Me (k, false) ++ [(kyB p, V.int .i64 0, Mc false)]) = some none := fun em => by rw [hM2, hc2, eA]; exact f1t em
                have a2 := (lk_no f1s).trans (lk_no f1).symm
                (conv => whnf); (repeat' (first | ((with_reducible refine ifb_mk (fun hc => ?_) (fun hc => ?_)) <;> ((try simp only [decide_eq_true_eq, decide_eq_false_iff_not, Bool.not_eq_true', Bool.not_eq_false', Int.not_lt, Int.not_le, ne_eq, Decidable.not_not, beq_iff_eq, List.cons.injEq, and_true] at hc); (first | (exfalso; omega) | exact absurd True.intro hc | conv => whnf))) | ((with_reducible refine And.intro True.intro ?_); conv => whnf) | ((with_reducible refine grd_and ?_); refine And.intro (hk) ?_; conv => whnf) | ((with_reducible refine WpR.drawTail (id := 3) mixed 19 [0, 1, 2, 3, 4, 5, 6, 7, 8, 9, 10, 11, 12, 13, 14, 15, 16, 17, 18] [0, 1, 0, 7, 15, 31, 63, 63, 127, 383, 1023, 2047, 63, 4159, 16383, 32767, 65535, 131071, 131071] ?hh ?hk ?_); (case hh => kernel_rfl); (case hk => kernel_rfl); conv => whnf) | ((with_reducible refine grd_ex ?_); refine ex_ok (c1 _) ?_; conv => whnf) | ((with_reducible refine CallX.all ?_); refine CallW.of_ok (c1 _) ?_; conv => whnf) | ((with_reducible refine grd_ex ?_); refine ex_ok (c2 _) ?_; conv => whnf) | ((with_reducible refine CallX.all ?_); refine CallW.of_ok (c2 _) ?_; conv => whnf) | ((with_reducible refine grd_get ?_); refine som_mk (a := ?_) ?hh ?_; (case hh => exact hgk _ (by show 12 + Int.toNat (k : Int) * 1 = 12 + k; omega)); conv => whnf) | ((with_reducible refine And.intro ?hh ?_); (case hh => exact condA); conv => whnf) | fail))
                refine YldX.all ?_
                refine YldW.inline rfl rfl rfl (WpR.of_vc ?_)
                conv => whnf
                refine ⟨rfl, _, rfl, rfl, WpR.of_vc ?_⟩
                (conv => whnf); (repeat' (first | ((with_reducible refine ifb_mk (fun hc => ?_) (fun hc => ?_)) <;> ((try simp only [decide_eq_true_eq, decide_eq_false_iff_not, Bool.not_eq_true', Bool.not_eq_false', Int.not_lt, Int.not_le, ne_eq, Decidable.not_not, beq_iff_eq, List.cons.injEq, and_true] at hc); (first | (exfalso; omega) | exact absurd True.intro hc | conv => whnf))) | ((with_reducible refine And.intro True.intro ?_); conv => whnf) | ((with_reducible refine CallX.all ?_); refine CallW.of_ok (c3 _) ?_; conv => whnf) | ((with_reducible refine grd_ex ?_); refine ex_ok (c3 _) ?_; conv => whnf) | ((with_reducible refine CallX.all (f := 68) ?_); refine CallW.inline Try.func68 rfl rfl (Nat.le_of_ble_eq_true rfl) (WpR.of_vc ?_); conv => whnf) | ((with_reducible refine WpR.draw (id := 4) mixed [0, 1, 2, 3, 4, 5, 6, 7] [0, 1, 0, 4, 12, 28, 60, 127] ?hh ?_); (case hh => kernel_rfl); conv => whnf) | ((with_reducible refine WpR.draw (id := 9) mixed [0, 1, 2, 3, 4, 5, 6, 7, 8, 9, 10, 11] [0, 0, 3, 0, 0, 0, 48, 120, 255, 251, 763, 2047] ?hh ?_); (case hh => kernel_rfl); conv => whnf) | (refine som_mk (f1 _) ?_; conv => whnf) | (refine som_mk (m1 _) ?_; conv => whnf) | ((with_reducible refine grd_and ?_); refine And.intro (hsum) ?_; conv => whnf) | ((with_reducible refine grd_and ?_); refine And.intro (same_key p) ?_; conv => whnf) | (refine som_mk (g3) ?_; conv => whnf) | (refine som_mk (g4) ?_; conv => whnf) | (((with_reducible refine And.intro ?hh ?_); (case hh => (conv => whnf); (repeat' (first | exact True.intro | exact a1 | exact a2 | rfl | refine And.intro ?_ ?_)); done)); conv => whnf) | ((with_reducible refine And.intro ?hh ?_); (case hh => exact condA); conv => whnf) | fail))
                refine ⟨_, _, rfl, ?_⟩
                (conv => whnf); (repeat' (first | ((with_reducible refine ifb_mk (fun hc => ?_) (fun hc => ?_)) <;> ((try simp only [decide_eq_true_eq, decide_eq_false_iff_not, Bool.not_eq_true', Bool.not_eq_false', Int.not_lt, Int.not_le, ne_eq, Decidable.not_not, beq_iff_eq, List.cons.injEq, and_true] at hc); (first | (exfalso; omega) | exact absurd True.intro hc | conv => whnf))) | ((with_reducible refine And.intro True.intro ?_); conv => whnf) | ((with_reducible refine And.intro ?hh ?_); (case hh => exact condA); conv => whnf) | fail))
                all_goals exact ⟨(k + 1, true), [], by dsimp only; omega, ⟨by dsimp only; omega, fun h => (by cases h)⟩, ⟨rfl, rfl, (by (repeat' (first | exact True.intro | rfl | exact gr_ren rfl | exact aV_ren rfl | exact aW_ren rfl rfl | refine And.intro ?_ ?_))), (by (repeat' (first | exact True.intro | rfl | exact gr_ren rfl | exact aV_ren rfl | exact aW_ren rfl rfl | refine And.intro ?_ ?_))), (by (repeat' (first | exact True.intro | rfl | exact gr_ren rfl | exact aV_ren rfl | exact aW_ren rfl rfl | refine And.intro ?_ ?_))), ⟨.inr ⟨_, rfl, g6⟩, trivial⟩, rfl, rfl⟩⟩
                -- END F2a
      · -- CASE Xa
        have ek : k = S := by omega
        subst ek
        have e3 : (some (V.int .i64 (((c + 1 : Nat) : Int) - 1 - 1)) : Option V) = some (V.int .i64 ((c : Int) - 1)) := by rw [show (((c + 1 : Nat) : Int) - 1 - 1) = (c : Int) - 1 by omega]
        cases st with
        | true =>
          have g1 : ∀ em, findAt Try.prog em 121 (kyB p) (Me (k, true)) = some (some E.length) := fun em => by rw [hM1]; exact last_find hself em
          have g2 : (Me (k, true))[E.length]? = some (kyB p, .int .i64 (T k), cl) := by rw [hM1]; exact last_at _ _ _ _
          by_cases h0 : T k = 0
          · have e1 : SubQ (rho []) (.map (enW E) (Mc true)) (.map ((Me (k, true)).eraseIdx E.length) (Mc true)) := by rw [hM1, last_erase]; exact enW_sub _ _
            (conv => whnf); (repeat' (first | ((with_reducible refine ifb_mk (fun hc => ?_) (fun hc => ?_)) <;> ((try simp only [decide_eq_true_eq, decide_eq_false_iff_not, Bool.not_eq_true', Bool.not_eq_false', Int.not_lt, Int.not_le, ne_eq, Decidable.not_not, beq_iff_eq, List.cons.injEq, and_true] at hc); (first | (exfalso; omega) | exact absurd True.intro hc | conv => whnf))) | ((with_reducible refine And.intro True.intro ?_); conv => whnf) | ((with_reducible refine grd_and ?_); refine And.intro (hk) ?_; conv => whnf) | (refine som_mk (g1 _) ?_; conv => whnf) | (refine som_mk (g2) ?_; conv => whnf) | ((with_reducible refine grd_and ?_); refine And.intro (h0) ?_; conv => whnf) | ((with_reducible refine And.intro ?hh ?_); (case hh => exact condA); conv => whnf) | fail))
            refine ⟨_, _, rfl, ?_⟩
            (conv => whnf); (repeat' (first | ((with_reducible refine ifb_mk (fun hc => ?_) (fun hc => ?_)) <;> ((try simp only [decide_eq_true_eq, decide_eq_false_iff_not, Bool.not_eq_true', Bool.not_eq_false', Int.not_lt, Int.not_le, ne_eq, Decidable.not_not, beq_iff_eq, List.cons.injEq, and_true] at hc); (first | (exfalso; omega) | exact absurd True.intro hc | conv => whnf))) | ((with_reducible refine And.intro True.intro ?_); conv => whnf) | ((with_reducible refine And.intro ?hh ?_); (case hh => exact condA); conv => whnf) | fail))
            all_goals exact ⟨(c, E, Mc true), [], by dsimp only; omega, ⟨by dsimp only; omega, wcong h0 _ (by show cl ≤ Mc true; rw [hc1]; omega)⟩, ⟨rfl, rfl, (by (repeat' (first | exact True.intro | rfl | exact e3 | refine And.intro ?_ ?_))), (by (repeat' (first | exact True.intro | rfl | exact e3 | refine And.intro ?_ ?_))), (by (repeat' (first | exact True.intro | rfl | exact e3 | refine And.intro ?_ ?_))), ⟨.inr ⟨_, rfl, e1⟩, trivial⟩, rfl, rfl⟩⟩
          · have e1 : SubQ (rho []) (.map (enW (E ++ [(p, T k, cl)])) (cl + 1)) (.map (Me (k, true)) (Mc true)) := by rw [hM1, hc1]; exact enW_sub _ _
            (conv => whnf); (repeat' (first | ((with_reducible refine ifb_mk (fun hc => ?_) (fun hc => ?_)) <;> ((try simp only [decide_eq_true_eq, decide_eq_false_iff_not, Bool.not_eq_true', Bool.not_eq_false', Int.not_lt, Int.not_le, ne_eq, Decidable.not_not, beq_iff_eq, List.cons.injEq, and_true] at hc); (first | (exfalso; omega) | exact absurd True.intro hc | conv => whnf))) | ((with_reducible refine And.intro True.intro ?_); conv => whnf) | ((with_reducible refine grd_and ?_); refine And.intro (hk) ?_; conv => whnf) | (refine som_mk (g1 _) ?_; conv => whnf) | (refine som_mk (g2) ?_; conv => whnf) | ((with_reducible refine grd_and ?_); refine And.intro (h0) ?_; conv => whnf) | ((with_reducible refine And.intro ?hh ?_); (case hh => exact condA); conv => whnf) | fail))
            refine ⟨_, _, rfl, ?_⟩
            (conv => whnf); (repeat' (first | ((with_reducible refine ifb_mk (fun hc => ?_) (fun hc => ?_)) <;> ((try simp only [decide_eq_true_eq, decide_eq_false_iff_not, Bool.not_eq_true', Bool.not_eq_false', Int.not_lt, Int.not_le, ne_eq, Decidable.not_not, beq_iff_eq, List.cons.injEq, and_true] at hc); (first | (exfalso; omega) | exact absurd True.intro hc | conv => whnf))) | ((with_reducible refine And.intro True.intro ?_); conv => whnf) | ((with_reducible refine And.intro ?hh ?_); (case hh => exact condA); conv => whnf) | fail))
            all_goals exact ⟨(c, E ++ [(p, T k, cl)], cl + 1), [], by dsimp only; omega, ⟨by dsimp only; omega, wadd h0⟩, ⟨rfl, rfl, (by (repeat' (first | exact True.intro | rfl | exact e3 | refine And.intro ?_ ?_))), (by (repeat' (first | exact True.intro | rfl | exact e3 | refine And.intro ?_ ?_))), (by (repeat' (first | exact True.intro | rfl | exact e3 | refine And.intro ?_ ?_))), ⟨.inr ⟨_, rfl, e1⟩, trivial⟩, rfl, rfl⟩⟩
        | false =>
          have h0 := k2 rfl
          have m1 : ∀ em, findAt Try.prog em 121 (kyB p) (Me (k, false)) = some none := fun em => by rw [hM2]; exact n1 em
          have e1 : SubQ (rho []) (.map (enW E) cl) (.map (Me (k, false)) (Mc false)) := by rw [hM2, hc2]; exact enW_sub _ _
          (conv => whnf); (repeat' (first | ((with_reducible refine ifb_mk (fun hc => ?_) (fun hc => ?_)) <;> ((try simp only [decide_eq_true_eq, decide_eq_false_iff_not, Bool.not_eq_true', Bool.not_eq_false', Int.not_lt, Int.not_le, ne_eq, Decidable.not_not, beq_iff_eq, List.cons.injEq, and_true] at hc); (first | (exfalso; omega) | exact absurd True.intro hc | conv => whnf))) | ((with_reducible refine And.intro True.intro ?_); conv => whnf) | ((with_reducible refine grd_and ?_); refine And.intro (hk) ?_; conv => whnf) | (refine som_mk (m1 _) ?_; conv => whnf) | ((with_reducible refine And.intro ?hh ?_); (case hh => exact condA); conv => whnf) | fail))
          refine ⟨_, _, rfl, ?_⟩
          (conv => whnf); (repeat' (first | ((with_reducible refine ifb_mk (fun hc => ?_) (fun hc => ?_)) <;> ((try simp only [decide_eq_true_eq, decide_eq_false_iff_not, Bool.not_eq_true', Bool.not_eq_false', Int.not_lt, Int.not_le, ne_eq, Decidable.not_not, beq_iff_eq, List.cons.injEq, and_true] at hc); (first | (exfalso; omega) | exact absurd True.intro hc | conv => whnf))) | ((with_reducible refine And.intro True.intro ?_); conv => whnf) | ((with_reducible refine And.intro ?hh ?_); (case hh => exact condA); conv => whnf) | fail))
          all_goals exact ⟨(c, E, cl), [], by dsimp only; omega, ⟨by dsimp only; omega, wcong h0 _ (Nat.le_refl _)⟩, ⟨rfl, rfl, (by (repeat' (first | exact True.intro | rfl | exact e3 | refine And.intro ?_ ?_))), (by (repeat' (first | exact True.intro | rfl | exact e3 | refine And.intro ?_ ?_))), (by (repeat' (first | exact True.intro | rfl | exact e3 | refine And.intro ?_ ?_))), ⟨.inr ⟨_, rfl, e1⟩, trivial⟩, rfl, rfl⟩⟩
        -- END Xa
    · rw [if_neg hlS] at hT0
      have hs1 : SubQ (rho []) (.map (Me (0, false)) (Mc false)) (.map (enW E) cl) := by rw [hM2, hc2]; exact enW_sub _ _
      (conv => whnf); (repeat' (first | ((with_reducible refine ifb_mk (fun hc => ?_) (fun hc => ?_)) <;> ((try simp only [decide_eq_true_eq, decide_eq_false_iff_not, Bool.not_eq_true', Bool.not_eq_false', Int.not_lt, Int.not_le, ne_eq, Decidable.not_not, beq_iff_eq, List.cons.injEq, and_true] at hc); (first | (exfalso; omega) | exact absurd True.intro hc | conv => whnf))) | ((with_reducible refine And.intro True.intro ?_); conv => whnf) | ((with_reducible refine grd_getN ?_); refine som_mk (a := ?_) ?hh ?_; (case hh => exact hgN _ (by show 0 + Int.toNat (((c + 1 : Nat) : Int) - 1) * 2 = c * 2; omega)); conv => whnf) | ((with_reducible refine And.intro ?hh ?_); (case hh => exact condA); conv => whnf) | fail))
      refine YldX.all ?_
      refine YldW.inline rfl rfl rfl (WpR.of_vc ?_)
      conv => whnf
      refine ⟨rfl, _, rfl, rfl, WpR.of_vc ?_⟩
      (conv => whnf); (repeat' (first | ((with_reducible refine ifb_mk (fun hc => ?_) (fun hc => ?_)) <;> ((try simp only [decide_eq_true_eq, decide_eq_false_iff_not, Bool.not_eq_true', Bool.not_eq_false', Int.not_lt, Int.not_le, ne_eq, Decidable.not_not, beq_iff_eq, List.cons.injEq, and_true] at hc); (first | (exfalso; omega) | exact absurd True.intro hc | conv => whnf))) | ((with_reducible refine And.intro True.intro ?_); conv => whnf) | ((with_reducible refine WpR.draw (id := 4) mixed [0, 1, 2, 3, 4, 5, 6, 7] [0, 1, 0, 4, 12, 28, 60, 127] ?hh ?_); (case hh => kernel_rfl); conv => whnf) | ((with_reducible refine WpR.draw (id := 9) mixed [0, 1, 2, 3, 4, 5, 6, 7, 8, 9, 10, 11] [0, 0, 3, 0, 0, 0, 48, 120, 255, 251, 763, 2047] ?hh ?_); (case hh => kernel_rfl); conv => whnf) | (refine som_mk (n1 _) ?_; conv => whnf) | ((with_reducible refine grd_and ?_); refine And.intro (hlS) ?_; conv => whnf) | ((with_reducible refine CallX.all (f := 94) ?_); refine CallW.inline Try.func94 rfl rfl (Nat.le_of_ble_eq_true rfl) (WpR.of_vc ?_); conv => whnf) | ((with_reducible refine RangeX.all ?_); conv => whnf) | ((with_reducible refine CallW.inline (f := 109) Try.func109 rfl rfl (Nat.le_of_ble_eq_true rfl) (WpR.of_vc ?_)); conv => whnf) | ((with_reducible refine And.intro ?hh ?_); (case hh => exact condA); conv => whnf) | fail))
      all_goals first | (exfalso; omega) | skip
      clear hMap hMap2
      have hMap := hMl
      have hMapB := hlt 14
      have hMapC : ∀ n, ltB n (.cells (ofL (gR eB F) 0) true gg) := fun n => ltB_ofLb (gB_bare _)
      refine WpR.loopA (ι := Nat × Bool) [] [0, 1, 2, 9] [3] [] 14 (fun q => [(10, .int .i64 q.1)]) (fun q => [(3, .map (Me q) (Mc q.2))]) (fun q => S - q.1) (fun q => q.1 ≤ S ∧ (q.2 = false → T q.1 = 0)) ?_ ((0, false)) (⟨Nat.zero_le _, fun _ => hT0⟩) [] ⟨rfl, rfl, (by (repeat' (first | exact True.intro | rfl | exact gr_ren rfl | exact aV_ren rfl | exact aW_ren rfl rfl | refine And.intro ?_ ?_))), (by (repeat' (first | exact True.intro | rfl | exact gr_ren rfl | exact aV_ren rfl | exact aW_ren rfl rfl | refine And.intro ?_ ?_))), (by (repeat' (first | exact True.intro | rfl | exact gr_ren rfl | exact aV_ren rfl | exact aW_ren rfl rfl | refine And.intro ?_ ?_))), ⟨.inr ⟨_, rfl, hs1⟩, trivial⟩, rfl, rfl⟩
      rintro ⟨k, st⟩ ⟨k1, k2⟩
      dsimp only at k1 k2
      refine WpR.of_vc ?_
      by_cases hk : k < S
      · have c1 := fun h' => has_ok h' p.2 k hp216 (by omega)
        have c2 := fun h' => isWithin_ok h' (br k) p.2
        have c3 := fun h' => bwith_ok h' (p.1 : Int) p.2 k (by omega) hp216 (by omega)
        have hgk := fun o (ho : o = 12 + k) => sk_br (S := S) (lv := lv) (lk := lk) (br := br) (mk := mk) ho (by omega : k < 10)
        have hek := hel k
        have hTk := hTS k
        have hTk1 := hTr k k1
        have hWk := hWr k
        have hsame : T (k + 1) = T k → SubQ (rho []) (.map (Me (k + 1, st)) (Mc st)) (.map (Me (k, st)) (Mc st)) := fun e => by
          cases st
          · rw [hM2, hM2]; exact enW_sub _ _
          · rw [hM1, hM1, e]; exact enW_sub _ _
        cases hb1 : p.2.testBit k with
        | true =>
          rw [hb1] at c1 hek
          rw [hek, if_neg (fun h => by cases h), Int.add_zero] at hTk
          (conv => whnf); (repeat' (first | ((with_reducible refine ifb_mk (fun hc => ?_) (fun hc => ?_)) <;> ((try simp only [decide_eq_true_eq, decide_eq_false_iff_not, Bool.not_eq_true', Bool.not_eq_false', Int.not_lt, Int.not_le, ne_eq, Decidable.not_not, beq_iff_eq, List.cons.injEq, and_true] at hc); (first | (exfalso; omega) | exact absurd True.intro hc | conv => whnf))) | ((with_reducible refine And.intro True.intro ?_); conv => whnf) | ((with_reducible refine grd_and ?_); refine And.intro (hk) ?_; conv => whnf) | ((with_reducible refine WpR.drawTail (id := 3) mixed 19 [0, 1, 2, 3, 4, 5, 6, 7, 8, 9, 10, 11, 12, 13, 14, 15, 16, 17, 18] [0, 1, 0, 7, 15, 31, 63, 63, 127, 383, 1023, 2047, 63, 4159, 16383, 32767, 65535, 131071, 131071] ?hh ?hk ?_); (case hh => kernel_rfl); (case hk => kernel_rfl); conv => whnf) | ((with_reducible refine grd_ex ?_); refine ex_ok (c1 _) ?_; conv => whnf) | ((with_reducible refine CallX.all ?_); refine CallW.of_ok (c1 _) ?_; conv => whnf) | ((with_reducible refine grd_ex ?_); refine ex_ok (c2 _) ?_; conv => whnf) | ((with_reducible refine CallX.all ?_); refine CallW.of_ok (c2 _) ?_; conv => whnf) | ((with_reducible refine grd_get ?_); refine som_mk (a := ?_) ?hh ?_; (case hh => exact hgk _ (by show 12 + Int.toNat (k : Int) * 1 = 12 + k; omega)); conv => whnf) | ((with_reducible refine And.intro ?hh ?_); (case hh => exact condA); conv => whnf) | fail))
          all_goals exact ⟨(k + 1, st), [], by dsimp only; omega, ⟨by dsimp only; omega, fun h => by dsimp only; rw [hTk]; exact k2 h⟩, ⟨rfl, rfl, (by (repeat' (first | exact True.intro | rfl | exact gr_ren rfl | exact aV_ren rfl | exact aW_ren rfl rfl | refine And.intro ?_ ?_))), (by (repeat' (first | exact True.intro | rfl | exact gr_ren rfl | exact aV_ren rfl | exact aW_ren rfl rfl | refine And.intro ?_ ?_))), (by (repeat' (first | exact True.intro | rfl | exact gr_ren rfl | exact aV_ren rfl | exact aW_ren rfl rfl | refine And.intro ?_ ?_))), ⟨.inr ⟨_, rfl, hsame hTk⟩, trivial⟩, rfl, rfl⟩⟩
        | false =>
          rw [hb1] at c1 hek
          cases hsb : subB (br k) p.2 with
          | false =>
            rw [hsb] at c2 hek
            rw [hek, if_neg (fun h => by cases h), Int.add_zero] at hTk
            (conv => whnf); (repeat' (first | ((with_reducible refine ifb_mk (fun hc => ?_) (fun hc => ?_)) <;> ((try simp only [decide_eq_true_eq, decide_eq_false_iff_not, Bool.not_eq_true', Bool.not_eq_false', Int.not_lt, Int.not_le, ne_eq, Decidable.not_not, beq_iff_eq, List.cons.injEq, and_true] at hc); (first | (exfalso; omega) | exact absurd True.intro hc | conv => whnf))) | ((with_reducible refine And.intro True.intro ?_); conv => whnf) | ((with_reducible refine grd_and ?_); refine And.intro (hk) ?_; conv => whnf) | ((with_reducible refine WpR.drawTail (id := 3) mixed 19 [0, 1, 2, 3, 4, 5, 6, 7, 8, 9, 10, 11, 12, 13, 14, 15, 16, 17, 18] [0, 1, 0, 7, 15, 31, 63, 63, 127, 383, 1023, 2047, 63, 4159, 16383, 32767, 65535, 131071, 131071] ?hh ?hk ?_); (case hh => kernel_rfl); (case hk => kernel_rfl); conv => whnf) | ((with_reducible refine grd_ex ?_); refine ex_ok (c1 _) ?_; conv => whnf) | ((with_reducible refine CallX.all ?_); refine CallW.of_ok (c1 _) ?_; conv => whnf) | ((with_reducible refine grd_ex ?_); refine ex_ok (c2 _) ?_; conv => whnf) | ((with_reducible refine CallX.all ?_); refine CallW.of_ok (c2 _) ?_; conv => whnf) | ((with_reducible refine grd_get ?_); refine som_mk (a := ?_) ?hh ?_; (case hh => exact hgk _ (by show 12 + Int.toNat (k : Int) * 1 = 12 + k; omega)); conv => whnf) | ((with_reducible refine And.intro ?hh ?_); (case hh => exact condA); conv => whnf) | fail))
            all_goals exact ⟨(k + 1, st), [], by dsimp only; omega, ⟨by dsimp only; omega, fun h => by dsimp only; rw [hTk]; exact k2 h⟩, ⟨rfl, rfl, (by (repeat' (first | exact True.intro | rfl | exact gr_ren rfl | exact aV_ren rfl | exact aW_ren rfl rfl | refine And.intro ?_ ?_))), (by (repeat' (first | exact True.intro | rfl | exact gr_ren rfl | exact aV_ren rfl | exact aW_ren rfl rfl | refine And.intro ?_ ?_))), (by (repeat' (first | exact True.intro | rfl | exact gr_ren rfl | exact aV_ren rfl | exact aW_ren rfl rfl | refine And.intro ?_ ?_))), ⟨.inr ⟨_, rfl, hsame hTk⟩, trivial⟩, rfl, rfl⟩⟩
          | true =>
            rw [hsb] at c2 hek
            have hek : elB br p.2 k = true := hek
            rw [if_pos hek] at hTk
            obtain ⟨i, hi, hpi⟩ := hfi k hk hek
            have hsum : InR (T k + wB br S (loB p k)) := by unfold InR; omega
            cases st with
            | true =>
              have g1 : ∀ em, findAt Try.prog em 121 (kyB p) (Me (k, true)) = some (some E.length) := fun em => by rw [hM1]; exact last_find hself em
              have g2 : (Me (k, true))[E.length]? = some (kyB p, .int .i64 (T k), cl) := by rw [hM1]; exact last_at _ _ _ _
              have g3 : stampAt (Int.ofNat cl) ((Me (k, true)).set E.length (kyB p, .int .i64 (T k), cl)) = some E.length := by rw [hM1, set_last]; exact enW_stamp wst
              have g4 : ((Me (k, true)).set E.length (kyB p, .int .i64 (T k), cl))[E.length]? = some (kyB p, .int .i64 (T k), cl) := by rw [hM1, set_last]; exact last_at _ _ _ _
              have hset : (Me (k, true)).set E.length (kyB p, .int .i64 (T k), cl) = Me (k, true) := by rw [hM1, set_last]
              have g1s : ∀ em, findAt Try.prog em 121 (kyB p) ((Me (k, true)).set E.length (kyB p, .int .i64 (T k), cl)) = some (some E.length) := fun em => by rw [hset]; exact g1 em
              have a1 := (lk_val g1s g4).trans (lk_val g1 g2).symm
              have g5 : ∀ w, T (k + 1) = T k + w → SubQ (rho []) (.map (Me (k + 1, true)) (Mc true)) (.map (((Me (k, true)).set E.length (kyB p, .int .i64 (T k), cl)).set E.length (kyB p, .int .i64 (T k + w), cl)) (Mc true)) := fun w e => by
                rw [hM1, hM1, set_last, set_last, e]; exact enW_sub _ _
              have hfw := wfind i (loB p k) (by omega) hpi [(p, T k, cl)] (fun e he => by rw [List.mem_singleton.1 he]; exact fun h => hlo k h.symm)
              rw [← hM1 k] at hfw
              rcases hfw with ⟨q1, j, z, f1, f2⟩ | ⟨q1, f1⟩
              · have g6 := g5 _ hTk
                -- CASE T1b
                have f1s : ∀ em, findAt Try.prog em 121 (kyB (loB p k)) ((Me (k, true)).set E.length (kyB p, .int .i64 (T k), cl)) = some (some j) := fun em => by rw [hset]; exact f1 em
                have f2s : ((Me (k, true)).set E.length (kyB p, .int .i64 (T k), cl))[j]? = some (kyB (loB p k), .int .i64 (wB br S (loB p k)), z) := by rw [hset]; exact f2
                have a2 := (lk_val f1s f2s).trans (lk_val f1 f2).symm
                (conv => whnf); (repeat' (first | ((with_reducible refine ifb_mk (fun hc => ?_) (fun hc => ?_)) <;> ((try simp only [decide_eq_true_eq, decide_eq_false_iff_not, Bool.not_eq_true', Bool.not_eq_false', Int.not_lt, Int.not_le, ne_eq, Decidable.not_not, beq_iff_eq, List.cons.injEq, and_true] at hc); (first | (exfalso; omega) | exact absurd True.intro hc | conv => whnf))) | ((with_reducible refine And.intro True.intro ?_); conv => whnf) | ((with_reducible refine grd_and ?_); refine And.intro (hk) ?_; conv => whnf) | ((with_reducible refine WpR.drawTail (id := 3) mixed 19 [0, 1, 2, 3, 4, 5, 6, 7, 8, 9, 10, 11, 12, 13, 14, 15, 16, 17, 18] [0, 1, 0, 7, 15, 31, 63, 63, 127, 383, 1023, 2047, 63, 4159, 16383, 32767, 65535, 131071, 131071] ?hh ?hk ?_); (case hh => kernel_rfl); (case hk => kernel_rfl); conv => whnf) | ((with_reducible refine grd_ex ?_); refine ex_ok (c1 _) ?_; conv => whnf) | ((with_reducible refine CallX.all ?_); refine CallW.of_ok (c1 _) ?_; conv => whnf) | ((with_reducible refine grd_ex ?_); refine ex_ok (c2 _) ?_; conv => whnf) | ((with_reducible refine CallX.all ?_); refine CallW.of_ok (c2 _) ?_; conv => whnf) | ((with_reducible refine grd_get ?_); refine som_mk (a := ?_) ?hh ?_; (case hh => exact hgk _ (by show 12 + Int.toNat (k : Int) * 1 = 12 + k; omega)); conv => whnf) | ((with_reducible refine And.intro ?hh ?_); (case hh => exact condA); conv => whnf) | fail))
                refine YldX.all ?_
                refine YldW.inline rfl rfl rfl (WpR.of_vc ?_)
                conv => whnf
                refine ⟨rfl, _, rfl, rfl, WpR.of_vc ?_⟩
                (conv => whnf); (repeat' (first | ((with_reducible refine ifb_mk (fun hc => ?_) (fun hc => ?_)) <;> ((try simp only [decide_eq_true_eq, decide_eq_false_iff_not, Bool.not_eq_true', Bool.not_eq_false', Int.not_lt, Int.not_le, ne_eq, Decidable.not_not, beq_iff_eq, List.cons.injEq, and_true] at hc); (first | (exfalso; omega) | exact absurd True.intro hc | conv => whnf))) | ((with_reducible refine And.intro True.intro ?_); conv => whnf) | ((with_reducible refine CallX.all ?_); refine CallW.of_ok (c3 _) ?_; conv => whnf) | ((with_reducible refine grd_ex ?_); refine ex_ok (c3 _) ?_; conv => whnf) | ((with_reducible refine CallX.all (f := 68) ?_); refine CallW.inline Try.func68 rfl rfl (Nat.le_of_ble_eq_true rfl) (WpR.of_vc ?_); conv => whnf) | ((with_reducible refine WpR.draw (id := 4) mixed [0, 1, 2, 3, 4, 5, 6, 7] [0, 1, 0, 4, 12, 28, 60, 127] ?hh ?_); (case hh => kernel_rfl); conv => whnf) | ((with_reducible refine WpR.draw (id := 9) mixed [0, 1, 2, 3, 4, 5, 6, 7, 8, 9, 10, 11] [0, 0, 3, 0, 0, 0, 48, 120, 255, 251, 763, 2047] ?hh ?_); (case hh => kernel_rfl); conv => whnf) | (refine som_mk (f1 _) ?_; conv => whnf) | (refine som_mk (f2) ?_; conv => whnf) | (refine som_mk (g1 _) ?_; conv => whnf) | (refine som_mk (g2) ?_; conv => whnf) | ((with_reducible refine grd_and ?_); refine And.intro (hsum) ?_; conv => whnf) | ((with_reducible refine grd_and ?_); refine And.intro (same_key p) ?_; conv => whnf) | (refine som_mk (g3) ?_; conv => whnf) | (refine som_mk (g4) ?_; conv => whnf) | (((with_reducible refine And.intro ?hh ?_); (case hh => (conv => whnf); (repeat' (first | exact True.intro | exact a1 | exact a2 | rfl | refine And.intro ?_ ?_)); done)); conv => whnf) | ((with_reducible refine And.intro ?hh ?_); (case hh => exact condA); conv => whnf) | fail))
                refine ⟨_, _, rfl, ?_⟩
                (conv => whnf); (repeat' (first | ((with_reducible refine ifb_mk (fun hc => ?_) (fun hc => ?_)) <;> ((try simp only [decide_eq_true_eq, decide_eq_false_iff_not, Bool.not_eq_true', Bool.not_eq_false', Int.not_lt, Int.not_le, ne_eq, Decidable.not_not, beq_iff_eq, List.cons.injEq, and_true] at hc); (first | (exfalso; omega) | exact absurd True.intro hc | conv => whnf))) | ((with_reducible refine And.intro True.intro ?_); conv => whnf) | ((with_reducible refine And.intro ?hh ?_); (case hh => exact condA); conv => whnf) | fail))
                all_goals exact ⟨(k + 1, true), [], by dsimp only; omega, ⟨by dsimp only; omega, fun h => (by cases h)⟩, ⟨rfl, rfl, (by (repeat' (first | exact True.intro | rfl | exact gr_ren rfl | exact aV_ren rfl | exact aW_ren rfl rfl | refine And.intro ?_ ?_))), (by (repeat' (first | exact True.intro | rfl | exact gr_ren rfl | exact aV_ren rfl | exact aW_ren rfl rfl | refine And.intro ?_ ?_))), (by (repeat' (first | exact True.intro | rfl | exact gr_ren rfl | exact aV_ren rfl | exact aW_ren rfl rfl | refine And.intro ?_ ?_))), ⟨.inr ⟨_, rfl, g6⟩, trivial⟩, rfl, rfl⟩⟩
                -- END T1b
              · rw [q1] at hTk hsum
                -- CASE T2b
                have g6 := g5 _ hTk
                have f1s : ∀ em, findAt Try.prog em 121 (kyB (loB p k)) ((Me (k, true)).set E.length (kyB p, .int .i64 (T k), cl)) = some none := fun em => by rw [hset]; exact f1 em
                have a2 := (lk_no f1s).trans (lk_no f1).symm
                (conv => whnf); (repeat' (first | ((with_reducible refine ifb_mk (fun hc => ?_) (fun hc => ?_)) <;> ((try simp only [decide_eq_true_eq, decide_eq_false_iff_not, Bool.not_eq_true', Bool.not_eq_false', Int.not_lt, Int.not_le, ne_eq, Decidable.not_not, beq_iff_eq, List.cons.injEq, and_true] at hc); (first | (exfalso; omega) | exact absurd True.intro hc | conv => whnf))) | ((with_reducible refine And.intro True.intro ?_); conv => whnf) | ((with_reducible refine grd_and ?_); refine And.intro (hk) ?_; conv => whnf) | ((with_reducible refine WpR.drawTail (id := 3) mixed 19 [0, 1, 2, 3, 4, 5, 6, 7, 8, 9, 10, 11, 12, 13, 14, 15, 16, 17, 18] [0, 1, 0, 7, 15, 31, 63, 63, 127, 383, 1023, 2047, 63, 4159, 16383, 32767, 65535, 131071, 131071] ?hh ?hk ?_); (case hh => kernel_rfl); (case hk => kernel_rfl); conv => whnf) | ((with_reducible refine grd_ex ?_); refine ex_ok (c1 _) ?_; conv => whnf) | ((with_reducible refine CallX.all ?_); refine CallW.of_ok (c1 _) ?_; conv => whnf) | ((with_reducible refine grd_ex ?_); refine ex_ok (c2 _) ?_; conv => whnf) | ((with_reducible refine CallX.all ?_); refine CallW.of_ok (c2 _) ?_; conv => whnf) | ((with_reducible refine grd_get ?_); refine som_mk (a := ?_) ?hh ?_; (case hh => exact hgk _ (by show 12 + Int.toNat (k : Int) * 1 = 12 + k; omega)); conv => whnf) | ((with_reducible refine And.intro ?hh ?_); (case hh => exact condA); conv => whnf) | fail))
                refine YldX.all ?_
                refine YldW.inline rfl rfl rfl (WpR.of_vc ?_)
                conv => whnf
                refine ⟨rfl, _, rfl, rfl, WpR.of_vc ?_⟩
                (conv => whnf); (repeat' (first | ((with_reducible refine ifb_mk (fun hc => ?_) (fun hc => ?_)) <;> ((try simp only [decide_eq_true_eq, decide_eq_false_iff_not, Bool.not_eq_true', Bool.not_eq_false', Int.not_lt, Int.not_le, ne_eq, Decidable.not_not, beq_iff_eq, List.cons.injEq, and_true] at hc); (first | (exfalso; omega) | exact absurd True.intro hc | conv => whnf))) | ((with_reducible refine And.intro True.intro ?_); conv => whnf) | ((with_reducible refine CallX.all ?_); refine CallW.of_ok (c3 _) ?_; conv => whnf) | ((with_reducible refine grd_ex ?_); refine ex_ok (c3 _) ?_; conv => whnf) | ((with_reducible refine CallX.all (f := 68) ?_); refine CallW.inline Try.func68 rfl rfl (Nat.le_of_ble_eq_true rfl) (WpR.of_vc ?_); conv => whnf) | ((with_reducible refine WpR.draw (id := 4) mixed [0, 1, 2, 3, 4, 5, 6, 7] [0, 1, 0, 4, 12, 28, 60, 127] ?hh ?_); (case hh => kernel_rfl); conv => whnf) | ((with_reducible refine WpR.draw (id := 9) mixed [0, 1, 2, 3, 4, 5, 6, 7, 8, 9, 10, 11] [0, 0, 3, 0, 0, 0, 48, 120, 255, 251, 763, 2047] ?hh ?_); (case hh => kernel_rfl); conv => whnf) | (refine som_mk (f1 _) ?_; conv => whnf) | (refine som_mk (g1 _) ?_; conv => whnf) | (refine som_mk (g2) ?_; conv => whnf) | ((with_reducible refine grd_and ?_); refine And.intro (hsum) ?_; conv => whnf) | ((with_reducible refine grd_and ?_); refine And.intro (same_key p) ?_; conv => whnf) | (refine som_mk (g3) ?_; conv => whnf) | (refine som_mk (g4) ?_; conv => whnf) | (((with_reducible refine And.intro ?hh ?_); (case hh => (conv => whnf); (repeat' (first | exact True.intro | exact a1 | exact a2 | rfl | refine And.intro ?_ ?_)); done)); conv => whnf) | ((with_reducible refine And.intro ?hh ?_); (case hh => exact condA); conv => whnf) | fail))
                refine ⟨_, _, rfl, ?_⟩
                (conv => whnf); (repeat' (first | ((with_reducible refine ifb_mk (fun hc => ?_) (fun hc => ?_)) <;> ((try simp only [decide_eq_true_eq, decide_eq_false_iff_not, Bool.not_eq_true', Bool.not_eq_false', Int.not_lt, Int.not_le, ne_eq, Decidable.not_not, beq_iff_eq, List.cons.injEq, and_true] at hc); (first | (exfalso; omega) | exact absurd True.intro hc | conv => whnf))) | ((with_reducible refine And.intro True.intro ?_); conv => whnf) | ((with_reducible refine And.intro ?hh ?_); (case hh => exact condA); conv => whnf) | fail))
                all_goals exact ⟨(k + 1, true), [], by dsimp only; omega, ⟨by dsimp only; omega, fun h => (by cases h)⟩, ⟨rfl, rfl, (by (repeat' (first | exact True.intro | rfl | exact gr_ren rfl | exact aV_ren rfl | exact aW_ren rfl rfl | refine And.intro ?_ ?_))), (by (repeat' (first | exact True.intro | rfl | exact gr_ren rfl | exact aV_ren rfl | exact aW_ren rfl rfl | refine And.intro ?_ ?_))), (by (repeat' (first | exact True.intro | rfl | exact gr_ren rfl | exact aV_ren rfl | exact aW_ren rfl rfl | refine And.intro ?_ ?_))), ⟨.inr ⟨_, rfl, g6⟩, trivial⟩, rfl, rfl⟩⟩
                -- END T2b
            | false =>
              have hTk0 := k2 rfl
              rw [hTk0] at hTk hsum
              have m1 : ∀ em, findAt Try.prog em 121 (kyB p) (Me (k, false)) = some none := fun em => by rw [hM2]; exact n1 em
              have eA : ∀ t : Int, enW E ++ [(kyB p, V.int .i64 t, cl)] = enW (E ++ [(p, t, cl)]) := fun t => (enW_app E [(p, t, cl)]).symm
              have g3 : stampAt (Int.ofNat (Mc false)) (Me (k, false) ++ [(kyB p, V.int .i64 0, Mc false)]) = some E.length := by rw [hM2, hc2, eA]; exact enW_stamp wst
              have g4 : (Me (k, false) ++ [(kyB p, V.int .i64 0, Mc false)])[E.length]? = some (kyB p, .int .i64 0, cl) := by rw [hM2, hc2, eA]; exact last_at _ _ _ _
              have g5 : ∀ w, T (k + 1) = 0 + w → SubQ (rho []) (.map (Me (k + 1, true)) (Mc true)) (.map ((Me (k, false) ++ [(kyB p, V.int .i64 0, Mc false)]).set E.length (kyB p, V.int .i64 (0 + w), cl)) (Mc false + 1)) := fun w e => by
                rw [hM1, hM2, hc1, hc2, eA, set_last, e]; exact enW_sub _ _
              have g1s : ∀ em, findAt Try.prog em 121 (kyB p) (Me (k, false) ++ [(kyB p, V.int .i64 0, Mc false)]) = some (some E.length) := fun em => by rw [hM2, hc2, eA]; exact last_find hself em
              have a1 := (lk_val g1s g4).trans (lk_no m1).symm
              have hfz := wfind i (loB p k) (by omega) hpi [(p, 0, cl)] (fun e he => by rw [List.mem_singleton.1 he]; exact fun h => hlo k h.symm)
              have hfw := wfind i (loB p k) (by omega) hpi [] (fun e he => absurd he (by simp))
              rw [List.append_nil, ← hM2 k] at hfw
              rcases hfw with ⟨q1, j, z, f1, f2⟩ | ⟨q1, f1⟩
              · have g6 := g5 _ hTk
                -- CASE F1b
                obtain ⟨j2, z2, f1t, f2t⟩ : ∃ j2 z2, (∀ em, findAt Try.prog em 121 (kyB (loB p k)) (enW (E ++ [(p, 0, cl)])) = some (some j2)) ∧ (enW (E ++ [(p, 0, cl)]))[j2]? = some (kyB (loB p k), V.int .i64 (wB br S (loB p k)), z2) := by
                  rcases hfz with ⟨_, j2, z2, h1, h2⟩ | ⟨h0, _⟩
                  · exact ⟨j2, z2, h1, h2⟩
                  · exact absurd h0 q1
                have f1s : ∀ em, findAt Try.prog em 121 (kyB (loB p k)) (Me (k, false) ++ [(kyB p, V.int .i64 0, Mc false)]) = some (some j2) := fun em => by rw [hM2, hc2, eA]; exact f1t em
                have f2s : (Me (k, false) ++ [(kyB p, V.int .i64 0, Mc false)])[j2]? = some (kyB (loB p k), V.int .i64 (wB br S (loB p k)), z2) := by rw [hM2, hc2, eA]; exact f2t
                have a2 := (lk_val f1s f2s).trans (lk_val f1 f2).symm
                (conv => whnf); (repeat' (first | ((with_reducible refine ifb_mk (fun hc => ?_) (fun hc => ?_)) <;> ((try simp only [decide_eq_true_eq, decide_eq_false_iff_not, Bool.not_eq_true', Bool.not_eq_false', Int.not_lt, Int.not_le, ne_eq, Decidable.not_not, beq_iff_eq, List.cons.injEq, and_true] at hc); (first | (exfalso; omega) | exact absurd True.intro hc | conv => whnf))) | ((with_reducible refine And.intro True.intro ?_); conv => whnf) | ((with_reducible refine grd_and ?_); refine And.intro (hk) ?_; conv => whnf) | ((with_reducible refine WpR.drawTail (id := 3) mixed 19 [0, 1, 2, 3, 4, 5, 6, 7, 8, 9, 10, 11, 12, 13, 14, 15, 16, 17, 18] [0, 1, 0, 7, 15, 31, 63, 63, 127, 383, 1023, 2047, 63, 4159, 16383, 32767, 65535, 131071, 131071] ?hh ?hk ?_); (case hh => kernel_rfl); (case hk => kernel_rfl); conv => whnf) | ((with_reducible refine grd_ex ?_); refine ex_ok (c1 _) ?_; conv => whnf) | ((with_reducible refine CallX.all ?_); refine CallW.of_ok (c1 _) ?_; conv => whnf) | ((with_reducible refine grd_ex ?_); refine ex_ok (c2 _) ?_; conv => whnf) | ((with_reducible refine CallX.all ?_); refine CallW.of_ok (c2 _) ?_; conv => whnf) | ((with_reducible refine grd_get ?_); refine som_mk (a := ?_) ?hh ?_; (case hh => exact hgk _ (by show 12 + Int.toNat (k : Int) * 1 = 12 + k; omega)); conv => whnf) | ((with_reducible refine And.intro ?hh ?_); (case hh => exact condA); conv => whnf) | fail))
                refine YldX.all ?_
                refine YldW.inline rfl rfl rfl (WpR.of_vc ?_)
                conv => whnf
                refine ⟨rfl, _, rfl, rfl, WpR.of_vc ?_⟩
                (conv => whnf); (repeat' (first | ((with_reducible refine ifb_mk (fun hc => ?_) (fun hc => ?_)) <;> ((try simp only [decide_eq_true_eq, decide_eq_false_iff_not, Bool.not_eq_true', Bool.not_eq_false', Int.not_lt, Int.not_le, ne_eq, Decidable.not_not, beq_iff_eq, List.cons.injEq, and_true] at hc); (first | (exfalso; omega) | exact absurd True.intro hc | conv => whnf))) | ((with_reducible refine And.intro True.intro ?_); conv => whnf) | ((with_reducible refine CallX.all ?_); refine CallW.of_ok (c3 _) ?_; conv => whnf) | ((with_reducible refine grd_ex ?_); refine ex_ok (c3 _) ?_; conv => whnf) | ((with_reducible refine CallX.all (f := 68) ?_); refine CallW.inline Try.func68 rfl rfl (Nat.le_of_ble_eq_true rfl) (WpR.of_vc ?_); conv => whnf) | ((with_reducible refine WpR.draw (id := 4) mixed [0, 1, 2, 3, 4, 5, 6, 7] [0, 1, 0, 4, 12, 28, 60, 127] ?hh ?_); (case hh => kernel_rfl); conv => whnf) | ((with_reducible refine WpR.draw (id := 9) mixed [0, 1, 2, 3, 4, 5, 6, 7, 8, 9, 10, 11] [0, 0, 3, 0, 0, 0, 48, 120, 255, 251, 763, 2047] ?hh ?_); (case hh => kernel_rfl); conv => whnf) | (refine som_mk (f1 _) ?_; conv => whnf) | (refine som_mk (f2) ?_; conv => whnf) | (refine som_mk (m1 _) ?_; conv => whnf) | ((with_reducible refine grd_and ?_); refine And.intro (hsum) ?_; conv => whnf) | ((with_reducible refine grd_and ?_); refine And.intro (same_key p) ?_; conv => whnf) | (refine som_mk (g3) ?_; conv => whnf) | (refine som_mk (g4) ?_; conv => whnf) | (((with_reducible refine And.intro ?hh ?_); (case hh => (conv => whnf); (repeat' (first | exact True.intro | exact a1 | exact a2 | rfl | refine And.intro ?_ ?_)); done)); conv => whnf) | ((with_reducible refine And.intro ?hh ?_); (case hh => exact condA); conv => whnf) | fail))
                refine ⟨_, _, rfl, ?_⟩
                (conv => whnf); (repeat' (first | ((with_reducible refine ifb_mk (fun hc => ?_) (fun hc => ?_)) <;> ((try simp only [decide_eq_true_eq, decide_eq_false_iff_not, Bool.not_eq_true', Bool.not_eq_false', Int.not_lt, Int.not_le, ne_eq, Decidable.not_not, beq_iff_eq, List.cons.injEq, and_true] at hc); (first | (exfalso; omega) | exact absurd True.intro hc | conv => whnf))) | ((with_reducible refine And.intro True.intro ?_); conv => whnf) | ((with_reducible refine And.intro ?hh ?_); (case hh => exact condA); conv => whnf) | fail))
                all_goals exact ⟨(k + 1, true), [], by dsimp only; omega, ⟨by dsimp only; omega, fun h => (by cases h)⟩, ⟨rfl, rfl, (by (repeat' (first | exact True.intro | rfl | exact gr_ren rfl | exact aV_ren rfl | exact aW_ren rfl rfl | refine And.intro ?_ ?_))), (by (repeat' (first | exact True.intro | rfl | exact gr_ren rfl | exact aV_ren rfl | exact aW_ren rfl rfl | refine And.intro ?_ ?_))), (by (repeat' (first | exact True.intro | rfl | exact gr_ren rfl | exact aV_ren rfl | exact aW_ren rfl rfl | refine And.intro ?_ ?_))), ⟨.inr ⟨_, rfl, g6⟩, trivial⟩, rfl, rfl⟩⟩
                -- END F1b
              · rw [q1] at hTk hsum
                -- CASE F2b
                have g6 := g5 _ hTk
                have f1t : ∀ em, findAt Try.prog em 121 (kyB (loB p k)) (enW (E ++ [(p, 0, cl)])) = some none := by
                  rcases hfz with ⟨h0, _⟩ | ⟨_, h1⟩
                  · exact absurd q1 h0
                  · exact h1
                have f1s : ∀ em, findAt Try.prog em 121 (kyB (loB p k)) (Me (k, false) ++ [(kyB p, V.int .i64 0, Mc false)]) = some none := fun em => by rw [hM2, hc2, eA]; exact f1t em
                have a2 := (lk_no f1s).trans (lk_no f1).symm
                (conv => whnf); (repeat' (first | ((with_reducible refine ifb_mk (fun hc => ?_) (fun hc => ?_)) <;> ((try simp only [decide_eq_true_eq, decide_eq_false_iff_not, Bool.not_eq_true', Bool.not_eq_false', Int.not_lt, Int.not_le, ne_eq, Decidable.not_not, beq_iff_eq, List.cons.injEq, and_true] at hc); (first | (exfalso; omega) | exact absurd True.intro hc | conv => whnf))) | ((with_reducible refine And.intro True.intro ?_); conv => whnf) | ((with_reducible refine grd_and ?_); refine And.intro (hk) ?_; conv => whnf) | ((with_reducible refine WpR.drawTail (id := 3) mixed 19 [0, 1, 2, 3, 4, 5, 6, 7, 8, 9, 10, 11, 12, 13, 14, 15, 16, 17, 18] [0, 1, 0, 7, 15, 31, 63, 63, 127, 383, 1023, 2047, 63, 4159, 16383, 32767, 65535, 131071, 131071] ?hh ?hk ?_); (case hh => kernel_rfl); (case hk => kernel_rfl); conv => whnf) | ((with_reducible refine grd_ex ?_); refine ex_ok (c1 _) ?_; conv => whnf) | ((with_reducible refine CallX.all ?_); refine CallW.of_ok (c1 _) ?_; conv => whnf) | ((with_reducible refine grd_ex ?_); refine ex_ok (c2 _) ?_; conv => whnf) | ((with_reducible refine CallX.all ?_); refine CallW.of_ok (c2 _) ?_; conv => whnf) | ((with_reducible refine grd_get ?_); refine som_mk (a := ?_) ?hh ?_; (case hh => exact hgk _ (by show 12 + Int.toNat (k : Int) * 1 = 12 + k; omega)); conv => whnf) | ((with_reducible refine And.intro ?hh ?_); (case hh => exact condA); conv => whnf) | fail))
                refine YldX.all ?_
                refine YldW.inline rfl rfl rfl (WpR.of_vc ?_)
                conv => whnf
                refine ⟨rfl, _, rfl, rfl, WpR.of_vc ?_⟩
                (conv => whnf); (repeat' (first | ((with_reducible refine ifb_mk (fun hc => ?_) (fun hc => ?_)) <;> ((try simp only [decide_eq_true_eq, decide_eq_false_iff_not, Bool.not_eq_true', Bool.not_eq_false', Int.not_lt, Int.not_le, ne_eq, Decidable.not_not, beq_iff_eq, List.cons.injEq, and_true] at hc); (first | (exfalso; omega) | exact absurd True.intro hc | conv => whnf))) | ((with_reducible refine And.intro True.intro ?_); conv => whnf) | ((with_reducible refine CallX.all ?_); refine CallW.of_ok (c3 _) ?_; conv => whnf) | ((with_reducible refine grd_ex ?_); refine ex_ok (c3 _) ?_; conv => whnf) | ((with_reducible refine CallX.all (f := 68) ?_); refine CallW.inline Try.func68 rfl rfl (Nat.le_of_ble_eq_true rfl) (WpR.of_vc ?_); conv => whnf) | ((with_reducible refine WpR.draw (id := 4) mixed [0, 1, 2, 3, 4, 5, 6, 7] [0, 1, 0, 4, 12, 28, 60, 127] ?hh ?_); (case hh => kernel_rfl); conv => whnf) | ((with_reducible refine WpR.draw (id := 9) mixed [0, 1, 2, 3, 4, 5, 6, 7, 8, 9, 10, 11] [0, 0, 3, 0, 0, 0, 48, 120, 255, 251, 763, 2047] ?hh ?_); (case hh => kernel_rfl); conv => whnf) | (refine som_mk (f1 _) ?_; conv => whnf) | (refine som_mk (m1 _) ?_; conv => whnf) | ((with_reducible refine grd_and ?_); refine And.intro (hsum) ?_; conv => whnf) | ((with_reducible refine grd_and ?_); refine And.intro (same_key p) ?_; conv => whnf) | (refine som_mk (g3) ?_; conv => whnf) | (refine som_mk (g4) ?_; conv => whnf) | (((with_reducible refine And.intro ?hh ?_); (case hh => (conv => whnf); (repeat' (first | exact True.intro | exact a1 | exact a2 | rfl | refine And.intro ?_ ?_)); done)); conv => whnf) | ((with_reducible refine And.intro ?hh ?_); (case hh => exact condA); conv => whnf) | fail))
                refine ⟨_, _, rfl, ?_⟩
                (conv => whnf); (repeat' (first | ((with_reducible refine ifb_mk (fun hc => ?_) (fun hc => ?_)) <;> ((try simp only [decide_eq_true_eq, decide_eq_false_iff_not, Bool.not_eq_true', Bool.not_eq_false', Int.not_lt, Int.not_le, ne_eq, Decidable.not_not, beq_iff_eq, List.cons.injEq, and_true] at hc); (first | (exfalso; omega) | exact absurd True.intro hc | conv => whnf))) | ((with_reducible refine And.intro True.intro ?_); conv => whnf) | ((with_reducible refine And.intro ?hh ?_); (case hh => exact condA); conv => whnf) | fail))
                all_goals exact ⟨(k + 1, true), [], by dsimp only; omega, ⟨by dsimp only; omega, fun h => (by cases h)⟩, ⟨rfl, rfl, (by (repeat' (first | exact True.intro | rfl | exact gr_ren rfl | exact aV_ren rfl | exact aW_ren rfl rfl | refine And.intro ?_ ?_))), (by (repeat' (first | exact True.intro | rfl | exact gr_ren rfl | exact aV_ren rfl | exact aW_ren rfl rfl | refine And.intro ?_ ?_))), (by (repeat' (first | exact True.intro | rfl | exact gr_ren rfl | exact aV_ren rfl | exact aW_ren rfl rfl | refine And.intro ?_ ?_))), ⟨.inr ⟨_, rfl, g6⟩, trivial⟩, rfl, rfl⟩⟩
                -- END F2b
      · -- CASE Xb
        have ek : k = S := by omega
        subst ek
        have e3 : (some (V.int .i64 (((c + 1 : Nat) : Int) - 1 - 1)) : Option V) = some (V.int .i64 ((c : Int) - 1)) := by rw [show (((c + 1 : Nat) : Int) - 1 - 1) = (c : Int) - 1 by omega]
        cases st with
        | true =>
          have g1 : ∀ em, findAt Try.prog em 121 (kyB p) (Me (k, true)) = some (some E.length) := fun em => by rw [hM1]; exact last_find hself em
          have g2 : (Me (k, true))[E.length]? = some (kyB p, .int .i64 (T k), cl) := by rw [hM1]; exact last_at _ _ _ _
          by_cases h0 : T k = 0
          · have e1 : SubQ (rho []) (.map (enW E) (Mc true)) (.map ((Me (k, true)).eraseIdx E.length) (Mc true)) := by rw [hM1, last_erase]; exact enW_sub _ _
            (conv => whnf); (repeat' (first | ((with_reducible refine ifb_mk (fun hc => ?_) (fun hc => ?_)) <;> ((try simp only [decide_eq_true_eq, decide_eq_false_iff_not, Bool.not_eq_true', Bool.not_eq_false', Int.not_lt, Int.not_le, ne_eq, Decidable.not_not, beq_iff_eq, List.cons.injEq, and_true] at hc); (first | (exfalso; omega) | exact absurd True.intro hc | conv => whnf))) | ((with_reducible refine And.intro True.intro ?_); conv => whnf) | ((with_reducible refine grd_and ?_); refine And.intro (hk) ?_; conv => whnf) | (refine som_mk (g1 _) ?_; conv => whnf) | (refine som_mk (g2) ?_; conv => whnf) | ((with_reducible refine grd_and ?_); refine And.intro (h0) ?_; conv => whnf) | ((with_reducible refine And.intro ?hh ?_); (case hh => exact condA); conv => whnf) | fail))
            refine ⟨_, _, rfl, ?_⟩
            (conv => whnf); (repeat' (first | ((with_reducible refine ifb_mk (fun hc => ?_) (fun hc => ?_)) <;> ((try simp only [decide_eq_true_eq, decide_eq_false_iff_not, Bool.not_eq_true', Bool.not_eq_false', Int.not_lt, Int.not_le, ne_eq, Decidable.not_not, beq_iff_eq, List.cons.injEq, and_true] at hc); (first | (exfalso; omega) | exact absurd True.intro hc | conv => whnf))) | ((with_reducible refine And.intro True.intro ?_); conv => whnf) | ((with_reducible refine And.intro ?hh ?_); (case hh => exact condA); conv => whnf) | fail))
            all_goals exact ⟨(c, E, Mc true), [], by dsimp only; omega, ⟨by dsimp only; omega, wcong h0 _ (by show cl ≤ Mc true; rw [hc1]; omega)⟩, ⟨rfl, rfl, (by (repeat' (first | exact True.intro | rfl | exact e3 | refine And.intro ?_ ?_))), (by (repeat' (first | exact True.intro | rfl | exact e3 | refine And.intro ?_ ?_))), (by (repeat' (first | exact True.intro | rfl | exact e3 | refine And.intro ?_ ?_))), ⟨.inr ⟨_, rfl, e1⟩, trivial⟩, rfl, rfl⟩⟩
          · have e1 : SubQ (rho []) (.map (enW (E ++ [(p, T k, cl)])) (cl + 1)) (.map (Me (k, true)) (Mc true)) := by rw [hM1, hc1]; exact enW_sub _ _
            (conv => whnf); (repeat' (first | ((with_reducible refine ifb_mk (fun hc => ?_) (fun hc => ?_)) <;> ((try simp only [decide_eq_true_eq, decide_eq_false_iff_not, Bool.not_eq_true', Bool.not_eq_false', Int.not_lt, Int.not_le, ne_eq, Decidable.not_not, beq_iff_eq, List.cons.injEq, and_true] at hc); (first | (exfalso; omega) | exact absurd True.intro hc | conv => whnf))) | ((with_reducible refine And.intro True.intro ?_); conv => whnf) | ((with_reducible refine grd_and ?_); refine And.intro (hk) ?_; conv => whnf) | (refine som_mk (g1 _) ?_; conv => whnf) | (refine som_mk (g2) ?_; conv => whnf) | ((with_reducible refine grd_and ?_); refine And.intro (h0) ?_; conv => whnf) | ((with_reducible refine And.intro ?hh ?_); (case hh => exact condA); conv => whnf) | fail))
            refine ⟨_, _, rfl, ?_⟩
            (conv => whnf); (repeat' (first | ((with_reducible refine ifb_mk (fun hc => ?_) (fun hc => ?_)) <;> ((try simp only [decide_eq_true_eq, decide_eq_false_iff_not, Bool.not_eq_true', Bool.not_eq_false', Int.not_lt, Int.not_le, ne_eq, Decidable.not_not, beq_iff_eq, List.cons.injEq, and_true] at hc); (first | (exfalso; omega) | exact absurd True.intro hc | conv => whnf))) | ((with_reducible refine And.intro True.intro ?_); conv => whnf) | ((with_reducible refine And.intro ?hh ?_); (case hh => exact condA); conv => whnf) | fail))
            all_goals exact ⟨(c, E ++ [(p, T k, cl)], cl + 1), [], by dsimp only; omega, ⟨by dsimp only; omega, wadd h0⟩, ⟨rfl, rfl, (by (repeat' (first | exact True.intro | rfl | exact e3 | refine And.intro ?_ ?_))), (by (repeat' (first | exact True.intro | rfl | exact e3 | refine And.intro ?_ ?_))), (by (repeat' (first | exact True.intro | rfl | exact e3 | refine And.intro ?_ ?_))), ⟨.inr ⟨_, rfl, e1⟩, trivial⟩, rfl, rfl⟩⟩
        | false =>
          have h0 := k2 rfl
          have m1 : ∀ em, findAt Try.prog em 121 (kyB p) (Me (k, false)) = some none := fun em => by rw [hM2]; exact n1 em
          have e1 : SubQ (rho []) (.map (enW E) cl) (.map (Me (k, false)) (Mc false)) := by rw [hM2, hc2]; exact enW_sub _ _
          (conv => whnf); (repeat' (first | ((with_reducible refine ifb_mk (fun hc => ?_) (fun hc => ?_)) <;> ((try simp only [decide_eq_true_eq, decide_eq_false_iff_not, Bool.not_eq_true', Bool.not_eq_false', Int.not_lt, Int.not_le, ne_eq, Decidable.not_not, beq_iff_eq, List.cons.injEq, and_true] at hc); (first | (exfalso; omega) | exact absurd True.intro hc | conv => whnf))) | ((with_reducible refine And.intro True.intro ?_); conv => whnf) | ((with_reducible refine grd_and ?_); refine And.intro (hk) ?_; conv => whnf) | (refine som_mk (m1 _) ?_; conv => whnf) | ((with_reducible refine And.intro ?hh ?_); (case hh => exact condA); conv => whnf) | fail))
          refine ⟨_, _, rfl, ?_⟩
          (conv => whnf); (repeat' (first | ((with_reducible refine ifb_mk (fun hc => ?_) (fun hc => ?_)) <;> ((try simp only [decide_eq_true_eq, decide_eq_false_iff_not, Bool.not_eq_true', Bool.not_eq_false', Int.not_lt, Int.not_le, ne_eq, Decidable.not_not, beq_iff_eq, List.cons.injEq, and_true] at hc); (first | (exfalso; omega) | exact absurd True.intro hc | conv => whnf))) | ((with_reducible refine And.intro True.intro ?_); conv => whnf) | ((with_reducible refine And.intro ?hh ?_); (case hh => exact condA); conv => whnf) | fail))
          all_goals exact ⟨(c, E, cl), [], by dsimp only; omega, ⟨by dsimp only; omega, wcong h0 _ (Nat.le_refl _)⟩, ⟨rfl, rfl, (by (repeat' (first | exact True.intro | rfl | exact e3 | refine And.intro ?_ ?_))), (by (repeat' (first | exact True.intro | rfl | exact e3 | refine And.intro ?_ ?_))), (by (repeat' (first | exact True.intro | rfl | exact e3 | refine And.intro ?_ ?_))), ⟨.inr ⟨_, rfl, e1⟩, trivial⟩, rfl, rfl⟩⟩
        -- END Xb
end Go.Proofs.J

