/- What the functions answer that the laws call, one after another, part 5. -/
import Derived.Test.YtcfblgemkgijmaaOwn4

set_option linter.unusedVariables false
namespace Go.Proofs.D
open Go.As
set_option maxRecDepth 20000
set_option linter.unusedVariables false
set_option linter.unusedSimpArgs false

/-! ### What the program's farthest motion reaches -/

def sgn (s : Int) (x : Rat) : Rat := if s = 1 then x else -x
theorem sgn_tq (s : Int) (x : Int × Int) : tq s x = sgn s (rq x) := rfl
theorem sgn_add (s : Int) (x y : Rat) : sgn s (x + y) = sgn s x + sgn s y := by unfold sgn; split <;> grind
theorem sgn_mul (s : Int) (x y : Rat) : sgn s (x * y) = sgn s x * y := by unfold sgn; split <;> grind
def upS (s : Int) (e : E) : Rat := if s = 1 then (e.2.2 : Rat) else -(e.2.1 : Rat)
def dnS (s : Int) (e : E) : Rat := if s = 1 then (e.2.1 : Rat) else -(e.2.2 : Rat)
def ptS (s : Int) (e : E) : Rat × Rat := ((e.1 : Rat), upS s e)
theorem upS_eq (s : Int) (e : E) : upS s e = sgn s (sideE s e : Rat) := by unfold upS sgn sideE; split <;> rfl

theorem start_rat {s : Int} {r : Int × Int} {e : E} (hr : 0 < r.2) : tq s (startQ s r e) = upS s e - tq s r * (e.1 : Rat) := by
  have hd : 0 < 1 * r.2 := by omega
  have h := rq_fr_mul (n := sideE s e * r.2 + r.1 * (-e.1) * 1) hd
  have hr' := rq_mul hr
  have hne := castNe hr
  have h2 : rq (startQ s r e) = (sideE s e : Rat) - rq r * (e.1 : Rat) := by
    apply cancelR hne
    unfold startQ
    rw [Int.one_mul] at h ⊢
    rw [h, Int.mul_one, Rat.intCast_add, Rat.intCast_mul, Rat.intCast_mul, Rat.intCast_neg]
    grind
  rw [sgn_tq, h2, upS_eq, sgn_tq]
  unfold sgn
  split <;> grind

theorem start_pos {s : Int} {r : Int × Int} {e : E} (hr : 0 < r.2) : 0 < (startQ s r e).2 := fr_pos (by omega)

theorem foldB_spec {s : Int} : ∀ (L : List (Int × Int)) (a : Int × Int), 0 < a.2 → (∀ x ∈ L, 0 < x.2) → ∃ f, L.foldl (stepB (tighterF s)) (some a) = some f ∧ (f = a ∨ f ∈ L) ∧ tq s f ≤ tq s a ∧ (∀ x ∈ L, tq s f ≤ tq s x)
  | [], a, _, _ => ⟨a, rfl, .inl rfl, Rat.le_refl, fun x hx => by cases hx⟩
  | y :: L, a, ha, hL => by
    have hy := hL y (List.mem_cons_self ..)
    have htt := tighter_tq (s := s) hy ha
    by_cases hlt : tq s y < tq s a
    · obtain ⟨f, h1, h2, h3, h4⟩ := foldB_spec L y hy (fun x hx => hL x (List.mem_cons_of_mem _ hx))
      refine ⟨f, ?_, ?_, Rat.le_trans h3 (Rat.le_of_lt hlt), fun x hx => ?_⟩
      · rw [List.foldl_cons, stepB_true (by rw [htt]; exact decide_eq_true hlt)]; exact h1
      · rcases h2 with rfl | h2
        · exact .inr (List.mem_cons_self ..)
        · exact .inr (List.mem_cons_of_mem _ h2)
      · rcases List.mem_cons.1 hx with rfl | hx
        · exact h3
        · exact h4 x hx
    · obtain ⟨f, h1, h2, h3, h4⟩ := foldB_spec L a ha (fun x hx => hL x (List.mem_cons_of_mem _ hx))
      refine ⟨f, ?_, ?_, h3, fun x hx => ?_⟩
      · rw [List.foldl_cons, stepB_false (by rw [htt]; exact decide_eq_false hlt)]; exact h1
      · rcases h2 with rfl | h2
        · exact .inl rfl
        · exact .inr (List.mem_cons_of_mem _ h2)
      · rcases List.mem_cons.1 hx with rfl | hx
        · exact Rat.le_trans h3 (Rat.not_lt.1 hlt)
        · exact h4 x hx

structure OutP (s : Int) (l : List E) (r q : Int × Int) : Prop where
  pos : 0 < q.2
  le : ∀ e ∈ l, tq s q ≤ upS s e - tq s r * (e.1 : Rat)
  ex : ∃ e ∈ l, tq s q = upS s e - tq s r * (e.1 : Rat)

theorem outQ_spec {s : Int} {l : List E} {r : Int × Int} (hr : 0 < r.2) (hl : 0 < l.length) : OutP s l r (outQ s r l) := by
  cases l with
  | nil => simp at hl
  | cons e l =>
    have hpos : ∀ x ∈ l.map (startQ s r), 0 < x.2 := fun x hx => by obtain ⟨f, _, rfl⟩ := List.mem_map.1 hx; exact start_pos hr
    obtain ⟨f, h1, h2, h3, h4⟩ := foldB_spec (s := s) (l.map (startQ s r)) (startQ s r e) (start_pos hr) hpos
    have hout : outQ s r (e :: l) = f := by
      show ((l.map (startQ s r)).foldl (stepB (tighterF s)) (some (startQ s r e))).getD (0, 0) = f
      rw [h1]; rfl
    rw [hout]
    refine ⟨?_, fun g hg => ?_, ?_⟩
    · rcases h2 with rfl | h2
      · exact start_pos hr
      · exact hpos f h2
    · rw [← start_rat hr]
      rcases List.mem_cons.1 hg with rfl | hg
      · exact h3
      · exact h4 _ (List.mem_map.2 ⟨g, hg, rfl⟩)
    · rcases h2 with rfl | h2
      · exact ⟨e, List.mem_cons_self .., start_rat hr⟩
      · obtain ⟨g, hg, rfl⟩ := List.mem_map.1 h2
        exact ⟨g, List.mem_cons_of_mem _ hg, start_rat hr⟩

theorem plc_rat {m : Mo} {t : Int} (h1 : 0 < m.1.2) (h2 : 0 < m.2.2) : rq (plcQ m t) = rq m.1 + rq m.2 * (t : Rat) := by
  have hd := Int.mul_pos h1 h2
  have h := rq_fr_mul (n := m.1.1 * m.2.2 + m.2.1 * t * m.1.2) hd
  have e1 := rq_mul h1
  have e2 := rq_mul h2
  apply cancelR (castNe hd)
  unfold plcQ
  rw [h, Rat.intCast_add, Rat.intCast_mul, Rat.intCast_mul, Rat.intCast_mul, Rat.intCast_mul, ← e1, ← e2]
  grind

def valM (s : Int) (m : Mo) (t : Int) : Rat := tq s (plcQ m t)
theorem valM_eq {s : Int} {m : Mo} {t : Int} (h1 : 0 < m.1.2) (h2 : 0 < m.2.2) : valM s m t = tq s m.1 + tq s m.2 * (t : Rat) := by
  unfold valM
  rw [sgn_tq, plc_rat h1 h2, sgn_add, sgn_mul]; rfl

structure CandP (s : Int) (l : List E) (m : Mo) : Prop where
  rp : 0 < m.2.2
  out : OutP s l m.2 m.1

theorem CandP.le {s : Int} {l : List E} {m : Mo} (h : CandP s l m) (t : Int) : LeF (l.map (ptS s)) (t : Rat) (tq s m.2) (valM s m t) := by
  intro p hp
  obtain ⟨e, he, rfl⟩ := List.mem_map.1 hp
  rw [valM_eq h.out.pos h.rp]
  have := h.out.le e he
  unfold ptS
  grind
theorem CandP.ge {s : Int} {l : List E} {m : Mo} (h : CandP s l m) (t : Int) (z : Rat) (hz : LeF (l.map (ptS s)) (t : Rat) (tq s m.2) z) : z ≤ valM s m t := by
  obtain ⟨e, he, h1⟩ := h.out.ex
  have := hz (ptS s e) (List.mem_map.2 ⟨e, he, rfl⟩)
  rw [valM_eq h.out.pos h.rp, h1]
  unfold ptS at this
  grind

theorem betM_tq {s t : Int} {m n : Mo} (hm : 0 < (plcQ m t).2) (hn : 0 < (plcQ n t).2) : betM s t m n = decide (valM s n t < valM s m t) := tighter_tq hn hm

theorem plc_pos {m : Mo} {t : Int} (h1 : 0 < m.1.2) (h2 : 0 < m.2.2) : 0 < (plcQ m t).2 := fr_pos (Int.mul_pos h1 h2)

structure FarP (s t : Int) (a b : Int × Int) (l : List E) (x : Mo) (L : List (Int × Int)) (g : Mo) : Prop where
  ge : valM s x t ≤ valM s g t
  all : ∀ p ∈ L, ∀ c, cornF s a b l p = some c → valM s c t ≤ valM s g t
  src : g = x ∨ ∃ p ∈ L, cornF s a b l p = some g

theorem farP_spec {s t : Int} {a b : Int × Int} {l : List E} : ∀ (L : List (Int × Int)) (x : Mo), 0 < (plcQ x t).2 → (∀ p ∈ L, ∀ c, cornF s a b l p = some c → 0 < (plcQ c t).2) → FarP s t a b l x L (farP s t a b l x L)
  | [], x, _, _ => ⟨Rat.le_refl, fun p hp => (by cases hp), .inl rfl⟩
  | p :: L, x, hx, hL => by
    have hL' : ∀ q ∈ L, ∀ c, cornF s a b l q = some c → 0 < (plcQ c t).2 := fun q hq => hL q (List.mem_cons_of_mem _ hq)
    have hdef : farP s t a b l x (p :: L) = farP s t a b l (stepM s t a b l x p) L := rfl
    rw [hdef]
    cases hc : cornF s a b l p with
    | none =>
      have hst : stepM s t a b l x p = x := by unfold stepM; rw [hc]
      rw [hst]
      obtain ⟨h1, h2, h3⟩ := farP_spec L x hx hL'
      refine ⟨h1, fun q hq c hqc => ?_, ?_⟩
      · rcases List.mem_cons.1 hq with rfl | hq
        · rw [hc] at hqc; cases hqc
        · exact h2 q hq c hqc
      · rcases h3 with h3 | ⟨q, hq, h3⟩
        · exact .inl h3
        · exact .inr ⟨q, List.mem_cons_of_mem _ hq, h3⟩
    | some c =>
      have hcp := hL p (List.mem_cons_self ..) c hc
      by_cases hlt : valM s x t < valM s c t
      · have hst : stepM s t a b l x p = c := by unfold stepM; rw [hc]; dsimp only; rw [betM_tq hcp hx, if_pos (decide_eq_true hlt)]
        rw [hst]
        obtain ⟨h1, h2, h3⟩ := farP_spec L c hcp hL'
        refine ⟨Rat.le_trans (Rat.le_of_lt hlt) h1, fun q hq c' hqc => ?_, ?_⟩
        · rcases List.mem_cons.1 hq with rfl | hq
          · rw [hc] at hqc; cases hqc; exact h1
          · exact h2 q hq c' hqc
        · rcases h3 with h3 | ⟨q, hq, h3⟩
          · exact .inr ⟨p, List.mem_cons_self .., by rw [h3]; exact hc⟩
          · exact .inr ⟨q, List.mem_cons_of_mem _ hq, h3⟩
      · have hst : stepM s t a b l x p = x := by unfold stepM; rw [hc]; dsimp only; rw [betM_tq hcp hx, if_neg (by simpa using hlt)]
        rw [hst]
        obtain ⟨h1, h2, h3⟩ := farP_spec L x hx hL'
        refine ⟨h1, fun q hq c' hqc => ?_, ?_⟩
        · rcases List.mem_cons.1 hq with rfl | hq
          · rw [hc] at hqc; cases hqc; exact Rat.le_trans (Rat.not_lt.1 hlt) h1
          · exact h2 q hq c' hqc
        · rcases h3 with h3 | ⟨q, hq, h3⟩
          · exact .inl h3
          · exact .inr ⟨q, List.mem_cons_of_mem _ hq, h3⟩

/-- The ends of the rate, to a side. -/
def loS (s : Int) (a b : Int × Int) : Rat := if s = 1 then rq a else -rq b
def hiS (s : Int) (a b : Int × Int) : Rat := if s = 1 then rq b else -rq a

theorem cross_rat {s : Int} {e f : E} (h : e.1 < f.1) : tq s (crossQ s e f) * ((f.1 : Rat) - (e.1 : Rat)) = upS s f - upS s e := by
  have hd : 0 < f.1 - e.1 := by omega
  have h1 := rq_fr_mul (n := sideE s f - sideE s e) hd
  rw [Rat.intCast_sub, Rat.intCast_sub] at h1
  rw [upS_eq, upS_eq, sgn_tq]
  unfold crossQ sgn
  split <;> grind

structure FarOk (s t : Int) (a b : Int × Int) (l : List E) (g : Mo) : Prop where
  cand : CandP s l g
  rate : loS s a b ≤ tq s g.2 ∧ tq s g.2 ≤ hiS s a b
  top : IsTop (l.map (ptS s)) (t : Rat) (loS s a b) (hiS s a b) (valM s g t)

theorem cand_of {s : Int} {l : List E} {r : Int × Int} (hr : 0 < r.2) (hl : 0 < l.length) : CandP s l (outM s l r) := ⟨hr, outQ_spec hr hl⟩

theorem farM_ok {lo hi : Int} {l : List E} (hS : OkS lo hi l) {s t : Int} (hs : s = 0 ∨ s = 1) {a b : Int × Int} (ha : 0 < a.2) (hb : 0 < b.2) (hab : rq a ≤ rq b) : FarOk s t a b l (farM s t a b l) := by
  have hl := hS.one
  have cA := cand_of (s := s) (l := l) ha hl
  have cB := cand_of (s := s) (l := l) hb hl
  have hcorn : ∀ p ∈ pairsL l.length, ∀ c, cornF s a b l p = some c → CandP s l c ∧ rq a < rq c.2 ∧ rq c.2 < rq b := by
    intro p hp c hc
    rcases pairsL_mem.1 hp with rfl | ⟨i, j, h1, h2, rfl⟩
    · unfold cornF at hc; rw [if_pos rfl] at hc; cases hc
    · have hgi : l[i]? = some l[i] := List.getElem?_eq_getElem _
      have hgj : l[j]? = some l[j] := List.getElem?_eq_getElem _
      have hlt := hS.inc _ _ _ _ h1 hgi hgj
      have hcp : 0 < (crossQ s l[i] l[j]).2 := fr_pos (by omega)
      rw [cornF_two hgi hgj] at hc
      split at hc
      · rename_i hcond
        cases hc
        exact ⟨cand_of hcp hl, (rq_lt ha hcp).2 hcond.1, (rq_lt hcp hb).2 hcond.2⟩
      · cases hc
  have pC : ∀ {c : Mo}, CandP s l c → 0 < (plcQ c t).2 := fun h => plc_pos h.out.pos h.rp
  obtain ⟨x0, hx0⟩ : ∃ x, x = (if betM s t (outM s l b) (outM s l a) then outM s l b else outM s l a) := ⟨_, rfl⟩
  have hfar : farM s t a b l = farP s t a b l x0 (pairsL l.length) := by unfold farM; rw [hx0]
  have hb0 := betM_tq (s := s) (pC cB) (pC cA)
  have hX : (x0 = outM s l a ∨ x0 = outM s l b) ∧ valM s (outM s l a) t ≤ valM s x0 t ∧ valM s (outM s l b) t ≤ valM s x0 t := by
    rw [hb0] at hx0
    by_cases hlt : valM s (outM s l a) t < valM s (outM s l b) t
    · rw [if_pos (decide_eq_true hlt)] at hx0; rw [hx0]; exact ⟨.inr rfl, Rat.le_of_lt hlt, Rat.le_refl⟩
    · rw [if_neg (by simpa using hlt)] at hx0; rw [hx0]; exact ⟨.inl rfl, Rat.le_refl, Rat.not_lt.1 hlt⟩
  have hXp : 0 < (plcQ x0 t).2 := by rcases hX.1 with h | h <;> rw [h] <;> exact pC (by assumption)
  obtain ⟨f1, f2, f3⟩ := farP_spec (s := s) (t := t) (a := a) (b := b) (l := l) (pairsL l.length) x0 hXp (fun p hp c hc => pC (hcorn p hp c hc).1)
  rw [← hfar] at f1 f2 f3
  generalize farM s t a b l = g at *
  have hcr : CandP s l g ∧ rq a ≤ rq g.2 ∧ rq g.2 ≤ rq b := by
    rcases f3 with h | ⟨p, hp, h⟩
    · rw [h]
      rcases hX.1 with h | h <;> rw [h]
      · exact ⟨cA, Rat.le_refl, hab⟩
      · exact ⟨cB, hab, Rat.le_refl⟩
    · obtain ⟨h1, h2, h3⟩ := hcorn p hp g h
      exact ⟨h1, Rat.le_of_lt h2, Rat.le_of_lt h3⟩
  obtain ⟨hc, hr1, hr2⟩ := hcr
  have hrate : loS s a b ≤ tq s g.2 ∧ tq s g.2 ≤ hiS s a b := by
    unfold loS hiS tq
    rcases hs with rfl | rfl
    · rw [if_neg (by decide), if_neg (by decide), if_neg (by decide)]; grind
    · rw [if_pos rfl, if_pos rfl, if_pos rfl]; exact ⟨hr1, hr2⟩
  refine ⟨hc, hrate, dual1 hrate.1 hrate.2 (hc.le t), fun z hz => ?_⟩
  have hlh : loS s a b ≤ hiS s a b := Rat.le_trans hrate.1 hrate.2
  obtain ⟨v, hv, hF⟩ := dual2 (l.map (ptS s)) (t : Rat) (loS s a b) (hiS s a b) hlh
  have hz' := hF z hz
  have two : ∀ r : Int × Int, 0 < r.2 → tq s r = v → valM s (outM s l r) t ≤ valM s g t → z ≤ valM s g t := by
    intro r hr hv' hle
    subst hv'
    exact Rat.le_trans ((cand_of (s := s) hr hl).ge t z hz') hle
  have hA := Rat.le_trans hX.2.1 f1
  have hB := Rat.le_trans hX.2.2 f1
  rcases hv with h | h | ⟨p, hp, q, hq, hlt, hvv, h1, h2⟩
  · rcases hs with rfl | rfl
    · exact two b hb (by rw [h]; rfl) hB
    · exact two a ha (by rw [h]; rfl) hA
  · rcases hs with rfl | rfl
    · exact two a ha (by rw [h]; rfl) hA
    · exact two b hb (by rw [h]; rfl) hB
  · obtain ⟨e, he, rfl⟩ := List.mem_map.1 hp
    obtain ⟨f, hf, rfl⟩ := List.mem_map.1 hq
    have hlt' : e.1 < f.1 := Rat.intCast_lt_intCast.1 hlt
    obtain ⟨i, hi', rfl⟩ := List.getElem_of_mem he
    obtain ⟨j, hj', rfl⟩ := List.getElem_of_mem hf
    have hij : i < j := by
      have hpw := hS.pw
      rcases Nat.lt_trichotomy i j with h | rfl | h
      · exact h
      · omega
      · have := List.pairwise_iff_getElem.1 hpw j i hj' hi' h; omega
    have hgi : l[i]? = some l[i] := List.getElem?_eq_getElem _
    have hgj : l[j]? = some l[j] := List.getElem?_eq_getElem _
    have hcp : 0 < (crossQ s l[i] l[j]).2 := fr_pos (by omega)
    have hveq : tq s (crossQ s l[i] l[j]) = v := by
      apply cancelR (c := (l[j].1 : Rat) - (l[i].1 : Rat)) (by have := sub_ps hlt; unfold ptS at this; grind)
      rw [cross_rat hlt']
      exact hvv.symm
    have hin : rq a < rq (crossQ s l[i] l[j]) ∧ rq (crossQ s l[i] l[j]) < rq b := by
      rw [← hveq] at h1 h2
      unfold loS tq at h1
      unfold hiS tq at h2
      rcases hs with rfl | rfl
      · rw [if_neg (by decide), if_neg (by decide)] at h1 h2; grind
      · rw [if_pos rfl, if_pos rfl] at h1 h2; exact ⟨h1, h2⟩
    have hcf := cornF_two (s := s) (a := a) (b := b) hgi hgj
    rw [if_pos ⟨(rq_lt ha hcp).1 hin.1, (rq_lt hcp hb).1 hin.2⟩] at hcf
    exact two _ hcp hveq (f2 _ (pairsL_mem.2 (.inr ⟨i, j, hij, hj', rfl⟩)) _ hcf)
end Go.Proofs.D

namespace Go.Proofs.D
open Go.As
set_option maxRecDepth 20000
set_option linter.unusedVariables false
set_option linter.unusedSimpArgs false

/-! ### Stars turned round; what the program tells is what the reference tells -/

theorem boundsP {lo hi : Int} {l : List E} (hS : OkS lo hi l) : RefP lo hi l (pairsL l.length) (loQ lo hi l, hiQ lo hi l) := by
  have := refRate_P hS
  rwa [refRate_eq hS] at this

theorem turn_len (l : List E) : (turnL l).length = l.length := List.length_map ..
theorem turn_get {l : List E} {i : Nat} {e : E} : (turnL l)[i]? = some e ↔ ∃ f, l[i]? = some f ∧ e = turnE f := by
  unfold turnL
  rw [List.getElem?_map]
  cases l[i]? with
  | none => simp
  | some f => simp [eq_comm]

theorem turn_OkS {lo hi : Int} {l : List E} (hS : OkS lo hi l) : OkS (-hi) (-lo) (turnL l) where
  one := by rw [turn_len]; exact hS.one
  most := by rw [turn_len]; exact hS.most
  rate := by have := hS.rate; omega
  ent i e he := by
    obtain ⟨f, hf, rfl⟩ := turn_get.1 he
    have := hS.ent i f hf
    unfold turnE
    dsimp only
    omega
  inc i j e f hij he hf := by
    obtain ⟨e', he', rfl⟩ := turn_get.1 he
    obtain ⟨f', hf', rfl⟩ := turn_get.1 hf
    exact hS.inc i j e' f' hij he' hf'

def negQ (q : Int × Int) : Int × Int := (-q.1, q.2)
theorem rq_neg (q : Int × Int) : rq (negQ q) = -rq q := by
  unfold rq negQ
  rw [Rat.intCast_neg, Rat.div_def, Rat.div_def, Rat.neg_mul]

theorem bnd_turn {lo hi : Int} {l : List E} {p : Int × Int} (hp : p ∈ pairsL l.length) : bndOf (-hi) (-lo) (turnL l) p = (negQ (bndOf lo hi l p).2, negQ (bndOf lo hi l p).1) := by
  rcases pairsL_mem.1 hp with rfl | ⟨i, j, h1, h2, rfl⟩
  · rfl
  · have hgi : l[i]? = some l[i] := List.getElem?_eq_getElem _
    have hgj : l[j]? = some l[j] := List.getElem?_eq_getElem _
    rw [bndOf_two hgi hgj, bndOf_two (turn_get.2 ⟨_, hgi, rfl⟩) (turn_get.2 ⟨_, hgj, rfl⟩)]
    generalize l[i] = e
    generalize l[j] = f
    unfold bnd2 turnE negQ
    dsimp only
    rw [show -f.2.2 - -e.2.1 = -(f.2.2 - e.2.1) from by omega, show -f.2.1 - -e.2.2 = -(f.2.1 - e.2.2) from by omega, fr_neg, fr_neg]

theorem turn_lo {lo hi : Int} {l : List E} (hS : OkS lo hi l) : rq (loQ (-hi) (-lo) (turnL l)) = -rq (hiQ lo hi l) := by
  obtain ⟨⟨p1, m1, e1⟩, ⟨p2, m2, e2⟩, h3, h4⟩ := boundsP hS
  obtain ⟨⟨q1, n1, d1⟩, ⟨q2, n2, d2⟩, g3, g4⟩ := boundsP (turn_OkS hS)
  rw [turn_len] at n1 n2 g3 g4
  dsimp only at *
  have b1 := h4 q1 n1
  have b2 := g3 p2 m2
  rw [bnd_turn n1] at d1
  rw [bnd_turn m2] at b2
  dsimp only at d1 b2
  rw [rq_neg, ← e2] at b2
  rw [d1, rq_neg] at b2 ⊢
  grind
theorem turn_hi {lo hi : Int} {l : List E} (hS : OkS lo hi l) : rq (hiQ (-hi) (-lo) (turnL l)) = -rq (loQ lo hi l) := by
  obtain ⟨⟨p1, m1, e1⟩, ⟨p2, m2, e2⟩, h3, h4⟩ := boundsP hS
  obtain ⟨⟨q1, n1, d1⟩, ⟨q2, n2, d2⟩, g3, g4⟩ := boundsP (turn_OkS hS)
  rw [turn_len] at n1 n2 g3 g4
  dsimp only at *
  have b1 := h3 q2 n2
  have b2 := g4 p1 m1
  rw [bnd_turn n2] at d2
  rw [bnd_turn m1] at b2
  dsimp only at d2 b2
  rw [rq_neg, ← e1] at b2
  rw [d2, rq_neg] at b2 ⊢
  grind

theorem pt_zero (l : List E) : l.map (ptS 0) = (turnL l).map ptE := by
  unfold turnL
  rw [List.map_map]
  refine List.map_congr_left fun e _ => ?_
  show ((e.1 : Rat), -(e.2.1 : Rat)) = ((e.1 : Rat), ((-e.2.1 : Int) : Rat))
  rw [Rat.intCast_neg]

theorem IsTop.eq {P : List (Rat × Rat)} {t a b x y : Rat} (h : IsTop P t a b x) (g : IsTop P t a b y) : x = y := Rat.le_antisymm (g.top _ h.le) (h.top _ g.le)

theorem hasM_le {lo hi : Int} {l : List E} (hS : OkS lo hi l) (h : hasM lo hi l = true) : rq (loQ lo hi l) ≤ rq (hiQ lo hi l) := by
  have h1 := (loQ_bd hS).2
  have h2 := (hiQ_bd hS).2
  rw [rq_le (by omega) (by omega)]
  unfold hasM at h
  simp at h
  exact h

theorem inH_red {t : Int} {e : E} {x f} (hx : Int.gcd x.1 x.2 = 1) (h : e.1 < f.1) : Int.gcd (inH t e x f).1 (inH t e x f).2 = 1 := by
  unfold inH
  split
  · exact hx
  · split
    · exact fr_gcd (by omega)
    · exact hx
theorem hiIn_red {t : Int} {e : E} : ∀ (L : List E) (x : Int × Int), Int.gcd x.1 x.2 = 1 → (∀ f ∈ L, e.1 < f.1) → Int.gcd (hiIn t e x L).1 (hiIn t e x L).2 = 1
  | [], _, hx, _ => hx
  | f :: L, x, hx, hL => hiIn_red L (inH t e x f) (inH_red hx (hL f (List.mem_cons_self ..))) (fun g hg => hL g (List.mem_cons_of_mem _ hg))
theorem hiGo_red {t : Int} {a b : Int × Int} (ha : 0 < a.2) (hb : 0 < b.2) : ∀ (l : List E) (x : Int × Int) (fst : Bool), (fst = true → 0 < l.length) → (fst = false → Int.gcd x.1 x.2 = 1) → (l.Pairwise fun e f => e.1 < f.1) → Int.gcd (hiGo t a b fst x l).1 (hiGo t a b fst x l).2 = 1
  | [], x, fst, h0, hx, _ => by
    cases fst with
    | true => exact absurd (h0 rfl) (Nat.lt_irrefl 0)
    | false => exact hx rfl
  | e :: l, x, fst, _, hx, hp => by
    rw [List.pairwise_cons] at hp
    have hT : Int.gcd (termI t a b e).1 (termI t a b e).2 = 1 := by unfold termI; split <;> exact fr_gcd (by assumption)
    refine hiGo_red ha hb l _ false (fun h => by cases h) (fun _ => hiIn_red l _ ?_ hp.1) hp.2
    cases fst with
    | true => rw [Bool.true_or, if_pos rfl]; exact hT
    | false =>
      rw [Bool.false_or]
      split
      · exact hT
      · exact hx rfl

theorem place1 {lo hi : Int} {l : List E} (hS : OkS lo hi l) (hm : hasM lo hi l = true) (t : Int) : plcQ (farA 1 lo hi l t) t = hiQt t (loQ lo hi l) (hiQ lo hi l) l := by
  have h1 := (loQ_bd hS).2
  have h2 := (hiQ_bd hS).2
  have hf := farM_ok hS (s := 1) (t := t) (.inr rfl) (by omega : 0 < (loQ lo hi l).2) (by omega : 0 < (hiQ lo hi l).2) (hasM_le hS hm)
  obtain ⟨g1, g2⟩ := hiQt_top (t := t) (by omega : 0 < (loQ lo hi l).2) (by omega : 0 < (hiQ lo hi l).2) hS.one hS.pw
  have hp := plc_pos (t := t) hf.cand.out.pos hf.cand.rp
  have hd := Int.mul_pos hf.cand.out.pos hf.cand.rp
  exact rq_inj hp g2 (fr_gcd hd) (hiGo_red (by omega) (by omega) l (0, 0) true (fun _ => hS.one) (fun h => by cases h) hS.pw) (IsTop.eq hf.top g1)

theorem place0 {lo hi : Int} {l : List E} (hS : OkS lo hi l) (hm : hasM lo hi l = true) (t : Int) : plcQ (farA 0 lo hi l t) t = negQ (hiQt t (loQ (-hi) (-lo) (turnL l)) (hiQ (-hi) (-lo) (turnL l)) (turnL l)) := by
  have hT := turn_OkS hS
  have h1 := (loQ_bd hS).2
  have h2 := (hiQ_bd hS).2
  have k1 := (loQ_bd hT).2
  have k2 := (hiQ_bd hT).2
  have hf := farM_ok hS (s := 0) (t := t) (.inl rfl) (by omega : 0 < (loQ lo hi l).2) (by omega : 0 < (hiQ lo hi l).2) (hasM_le hS hm)
  obtain ⟨g1, g2⟩ := hiQt_top (t := t) (by omega : 0 < (loQ (-hi) (-lo) (turnL l)).2) (by omega : 0 < (hiQ (-hi) (-lo) (turnL l)).2) hT.one hT.pw
  have hp := plc_pos (t := t) hf.cand.out.pos hf.cand.rp
  have hd := Int.mul_pos hf.cand.out.pos hf.cand.rp
  have hred := hiGo_red (t := t) (by omega : 0 < (loQ (-hi) (-lo) (turnL l)).2) (by omega : 0 < (hiQ (-hi) (-lo) (turnL l)).2) (turnL l) (0, 0) true (fun _ => hT.one) (fun h => by cases h) hT.pw
  have htop := hf.top
  have e1 : loS 0 (loQ lo hi l) (hiQ lo hi l) = rq (loQ (-hi) (-lo) (turnL l)) := (turn_lo hS).symm
  have e2 : hiS 0 (loQ lo hi l) (hiQ lo hi l) = rq (hiQ (-hi) (-lo) (turnL l)) := (turn_hi hS).symm
  rw [pt_zero, e1, e2] at htop
  have heq := IsTop.eq htop g1
  unfold hiQt at heq g2 ⊢
  generalize hiGo t (loQ (-hi) (-lo) (turnL l)) (hiQ (-hi) (-lo) (turnL l)) true (0, 0) (turnL l) = g at *
  refine rq_inj hp (show 0 < (negQ g).2 from g2) (fr_gcd hd) (by unfold negQ; dsimp only; rw [Int.neg_gcd]; exact hred) ?_
  rw [rq_neg, ← heq]
  have : valM 0 (farM 0 t (loQ lo hi l) (hiQ lo hi l) l) t = -rq (plcQ (farA 0 lo hi l t) t) := rfl
  rw [this]
  grind

/-! ### The farthest motion agrees -/

theorem dn_le {s : Int} (hs : s = 0 ∨ s = 1) {e : E} (h : e.2.1 ≤ e.2.2) : dnS s e ≤ upS s e := by
  have h' := Rat.intCast_le_intCast.2 h
  unfold dnS upS
  rcases hs with rfl | rfl
  · rw [if_neg (by decide), if_neg (by decide)]; grind
  · rw [if_pos rfl, if_pos rfl]; exact h'

theorem pair_lo {lo hi : Int} {l : List E} (hS : OkS lo hi l) {s : Int} (hs : s = 0 ∨ s = 1) {i j : Nat} {e f : E} (hij : i < j) (he : l[i]? = some e) (hf : l[j]? = some f) :
    dnS s f - upS s e ≤ loS s (loQ lo hi l) (hiQ lo hi l) * ((f.1 : Rat) - (e.1 : Rat)) ∧ hiS s (loQ lo hi l) (hiQ lo hi l) * ((f.1 : Rat) - (e.1 : Rat)) ≤ upS s f - dnS s e := by
  obtain ⟨_, _, h3, h4⟩ := boundsP hS
  have hlt := hS.inc i j e f hij he hf
  have hjl := (List.getElem?_eq_some_iff.1 hf).1
  have hm := pairsL_mem.2 (.inr ⟨i, j, hij, hjl, rfl⟩)
  have b1 := h3 _ hm
  have b2 := h4 _ hm
  rw [bndOf_two he hf] at b1 b2
  have hd : 0 < f.1 - e.1 := by omega
  have hdR := Rat.intCast_pos.2 hd
  rw [Rat.intCast_sub] at hdR
  have r1 := rq_fr_mul (n := f.2.1 - e.2.2) hd
  have r2 := rq_fr_mul (n := f.2.2 - e.2.1) hd
  rw [Rat.intCast_sub, Rat.intCast_sub] at r1 r2
  have c1 := mul_mono b1 (Rat.le_of_lt hdR)
  have c2 := mul_mono b2 (Rat.le_of_lt hdR)
  unfold bnd2 at c1 c2
  dsimp only at c1 c2
  rw [r1] at c1
  rw [r2] at c2
  unfold dnS upS loS hiS
  rcases hs with rfl | rfl
  · rw [if_neg (by decide), if_neg (by decide), if_neg (by decide), if_neg (by decide), if_neg (by decide), if_neg (by decide)]
    constructor <;> grind
  · rw [if_pos rfl, if_pos rfl, if_pos rfl, if_pos rfl, if_pos rfl, if_pos rfl]
    exact ⟨c1, c2⟩

theorem far_in {lo hi : Int} {l : List E} (hS : OkS lo hi l) {s t : Int} (hs : s = 0 ∨ s = 1) {m : Mo} (hf : FarOk s t (loQ lo hi l) (hiQ lo hi l) l m) {j : Nat} {f : E} (hfj : l[j]? = some f) :
    dnS s f ≤ tq s m.1 + tq s m.2 * (f.1 : Rat) ∧ tq s m.1 + tq s m.2 * (f.1 : Rat) ≤ upS s f := by
  have hmem : f ∈ l := List.mem_of_getElem? hfj
  have h1 := hf.cand.out.le f hmem
  refine ⟨?_, by grind⟩
  obtain ⟨e, he, h2⟩ := hf.cand.out.ex
  obtain ⟨i, hei⟩ := List.mem_iff_getElem?.1 he
  obtain ⟨g1, g2⟩ := hf.rate
  rw [h2]
  rcases Nat.lt_trichotomy i j with h | rfl | h
  · have hlt := hS.inc i j e f h hei hfj
    have hdR : (0 : Rat) ≤ (f.1 : Rat) - (e.1 : Rat) := sub_nn (Rat.le_of_lt (Rat.intCast_lt_intCast.2 hlt))
    have := (pair_lo hS hs h hei hfj).1
    have := mul_mono g1 hdR
    grind
  · rw [hei] at hfj; cases hfj
    have := dn_le hs (hS.ent i _ hei).2.2.2.1
    grind
  · have hlt := hS.inc j i f e h hfj hei
    have hdR : (0 : Rat) ≤ (e.1 : Rat) - (f.1 : Rat) := sub_nn (Rat.le_of_lt (Rat.intCast_lt_intCast.2 hlt))
    have := (pair_lo hS hs h hfj hei).2
    have := mul_mono g2 hdR
    grind

theorem pl_rat {m : Mo} {y : Int} (h1 : 0 < m.1.2) (h2 : 0 < m.2.2) : (plN m y : Rat) = (rq m.1 + rq m.2 * (y : Rat)) * ((m.1.2 : Rat) * (m.2.2 : Rat)) := by
  have e1 := rq_mul h1
  have e2 := rq_mul h2
  unfold plN
  rw [Rat.intCast_add, Rat.intCast_mul, Rat.intCast_mul, Rat.intCast_mul, ← e1, ← e2]
  grind

theorem far_err {lo hi : Int} {l : List E} (h0 : starErr lo hi l = 0) (hm : hasM lo hi l = true) {s t : Int} (hs : s = 0 ∨ s = 1) : motErr lo hi l (farA s lo hi l t) = 0 ∧ okF (farA s lo hi l t).1 = true ∧ okF (farA s lo hi l t).2 = true := by
  have hS := starErr_ok h0
  have h1 := (loQ_bd hS).2
  have h2 := (hiQ_bd hS).2
  have hf := farM_ok hS (s := s) (t := t) hs (by omega : 0 < (loQ lo hi l).2) (by omega : 0 < (hiQ lo hi l).2) (hasM_le hS hm)
  have hf' : FarOk s t (loQ lo hi l) (hiQ lo hi l) l (farA s lo hi l t) := hf
  have hO := farA_ok hS s t
  obtain ⟨o1, o2, ⟨o3, o4⟩⟩ := hO
  have k1 : okF (farA s lo hi l t).1 = true := decide_eq_true ⟨by omega, by omega⟩
  have k2 : okF (farA s lo hi l t).2 = true := decide_eq_true ⟨by omega, by omega⟩
  refine ⟨?_, k1, k2⟩
  generalize farA s lo hi l t = m at *
  have p1 : 0 < m.1.2 := by omega
  have p2 : 0 < m.2.2 := by omega
  obtain ⟨_, _, b3, b4⟩ := boundsP hS
  have c3 := b3 (-1, -1) (pairsL_mem.2 (.inl rfl))
  have c4 := b4 (-1, -1) (pairsL_mem.2 (.inl rfl))
  have rr : rq (loQ lo hi l) ≤ rq m.2 ∧ rq m.2 ≤ rq (hiQ lo hi l) := by
    obtain ⟨g1, g2⟩ := hf'.rate
    unfold loS tq at g1
    unfold hiS tq at g2
    rcases hs with rfl | rfl
    · rw [if_neg (by decide), if_neg (by decide)] at g1 g2; grind
    · rw [if_pos rfl, if_pos rfl] at g1 g2; exact ⟨g1, g2⟩
  have q1 : lo * m.2.2 ≤ m.2.1 := by
    have := (rq_le (a := (lo, 1)) (b := m.2) (by decide : (0 : Int) < 1) p2).1 (Rat.le_trans c3 rr.1)
    dsimp only at this; omega
  have q2 : m.2.1 ≤ hi * m.2.2 := by
    have := (rq_le (a := m.2) (b := (hi, 1)) p2 (by decide : (0 : Int) < 1)).1 (Rat.le_trans rr.2 c4)
    dsimp only at this; omega
  have hall : l.all (inE m) = true := by
    rw [List.all_eq_true]
    intro e he
    obtain ⟨j, hej⟩ := List.mem_iff_getElem?.1 he
    obtain ⟨w1, w2⟩ := far_in hS hs hf' hej
    have hin : (e.2.1 : Rat) ≤ rq m.1 + rq m.2 * (e.1 : Rat) ∧ rq m.1 + rq m.2 * (e.1 : Rat) ≤ (e.2.2 : Rat) := by
      unfold dnS tq at w1
      unfold upS tq at w2
      rcases hs with rfl | rfl
      · rw [if_neg (by decide), if_neg (by decide), if_neg (by decide)] at w1 w2; constructor <;> grind
      · rw [if_pos rfl, if_pos rfl, if_pos rfl] at w1 w2; exact ⟨w1, w2⟩
    have hdd : (0 : Rat) ≤ (m.1.2 : Rat) * (m.2.2 : Rat) := Rat.le_of_lt (Rat.mul_pos (Rat.intCast_pos.2 p1) (Rat.intCast_pos.2 p2))
    have v1 := mul_mono hin.1 hdd
    have v2 := mul_mono hin.2 hdd
    rw [← pl_rat p1 p2] at v1 v2
    rw [← Rat.intCast_mul, ← Rat.intCast_mul, Rat.intCast_le_intCast, ← Int.mul_assoc] at v1 v2
    unfold inE
    rw [decide_eq_true v1, decide_eq_true v2]; rfl
  have hagr : agr lo hi l m = true := by unfold agr; rw [decide_eq_true q1, decide_eq_true q2, hall]; rfl
  unfold motErr
  rw [if_pos h0, k1, k2, Bool.and_self, if_pos rfl, if_pos hagr]
end Go.Proofs.D

namespace Go.Proofs.D
open Go.As
set_option maxRecDepth 20000
set_option linter.unusedVariables false
set_option linter.unusedSimpArgs false

end Go.Proofs.D

namespace Go.Proofs.D
open Go.As
set_option maxRecDepth 20000
set_option linter.unusedVariables false
set_option linter.unusedSimpArgs false

theorem slow_eql_self {t : TypeId} {k : Nat} (hk : eqOk Try.prog t k = true) {x y : Operand} (a : List Int) (ha : a.length = k := by rfl) : slow Try.prog .eql t x y (.agg (a.map (V.int .i64))) (.agg (a.map (V.int .i64))) = some (.bool true) := by
  rw [slow_eql hk a a ha ha, decide_eq_true rfl]

end Go.Proofs.D

namespace Go.Proofs.D
open Go.As
set_option maxRecDepth 20000
set_option linter.unusedVariables false
set_option linter.unusedSimpArgs false

/-! ### What every motion that agrees keeps to -/

structure MotIn (lo hi : Int) (l : List E) (m : Mo) : Prop where
  p1 : 0 < m.1.2
  p2 : 0 < m.2.2
  st : starErr lo hi l = 0
  f1 : okF m.1 = true
  f2 : okF m.2 = true
  rate : (lo : Rat) ≤ rq m.2 ∧ rq m.2 ≤ (hi : Rat)
  ent : ∀ e ∈ l, (e.2.1 : Rat) ≤ rq m.1 + rq m.2 * (e.1 : Rat) ∧ rq m.1 + rq m.2 * (e.1 : Rat) ≤ (e.2.2 : Rat)

theorem rq_int (n : Int) : rq (n, 1) = (n : Rat) := by
  have := rq_mul (x := (n, 1)) (Int.zero_lt_one : (0 : Int) < 1)
  simpa using this

theorem mot_in {lo hi : Int} {l : List E} {m : Mo} (h : motErr lo hi l m = 0) : MotIn lo hi l m := by
  unfold motErr at h
  have h0 : starErr lo hi l = 0 := by grind
  rw [if_pos h0] at h
  have h1 : (okF m.1 && okF m.2) = true := by grind
  rw [if_pos h1] at h
  have h2 : agr lo hi l m = true := by grind
  rw [Bool.and_eq_true] at h1
  have f1 := okF_iff h1.1
  have f2 := okF_iff h1.2
  have p1 : 0 < m.1.2 := by omega
  have p2 : 0 < m.2.2 := by omega
  unfold agr at h2
  rw [Bool.and_eq_true, Bool.and_eq_true, decide_eq_true_eq, decide_eq_true_eq, List.all_eq_true] at h2
  obtain ⟨⟨g1, g2⟩, g3⟩ := h2
  refine ⟨p1, p2, h0, h1.1, h1.2, ⟨?_, ?_⟩, fun e he => ?_⟩
  · have := (rq_le (a := (lo, 1)) (b := m.2) (by decide : (0 : Int) < 1) p2).2 (by dsimp only; omega)
    rwa [rq_int] at this
  · have := (rq_le (a := m.2) (b := (hi, 1)) p2 (by decide : (0 : Int) < 1)).2 (by dsimp only; omega)
    rwa [rq_int] at this
  · have g4 := g3 e he
    unfold inE at g4
    rw [Bool.and_eq_true, decide_eq_true_eq, decide_eq_true_eq] at g4
    obtain ⟨g5, g6⟩ := g4
    have hdd : (0 : Rat) < (m.1.2 : Rat) * (m.2.2 : Rat) := Rat.mul_pos (Rat.intCast_pos.2 p1) (Rat.intCast_pos.2 p2)
    rw [Int.mul_assoc] at g5 g6
    have v1 := Rat.intCast_le_intCast.2 g5
    have v2 := Rat.intCast_le_intCast.2 g6
    rw [pl_rat p1 p2, Rat.intCast_mul, Rat.intCast_mul] at v1 v2
    exact ⟨le_of_mulR hdd v1, le_of_mulR hdd v2⟩

theorem mot_rate {lo hi : Int} {l : List E} {m : Mo} (h : MotIn lo hi l m) : rq (loQ lo hi l) ≤ rq m.2 ∧ rq m.2 ≤ rq (hiQ lo hi l) := by
  have hS := starErr_ok h.st
  obtain ⟨⟨p, mp, e1⟩, ⟨q, mq, e2⟩, _, _⟩ := boundsP hS
  dsimp only at e1 e2
  rw [e1, e2]
  constructor
  · rcases pairsL_mem.1 mp with rfl | ⟨i, j, h1, h2, rfl⟩
    · show rq (lo, 1) ≤ _
      rw [rq_int]; exact h.rate.1
    · have hgi : l[i]? = some l[i] := List.getElem?_eq_getElem _
      have hgj : l[j]? = some l[j] := List.getElem?_eq_getElem _
      have hlt := hS.inc _ _ _ _ h1 hgi hgj
      rw [bndOf_two hgi hgj]
      have a1 := h.ent l[i] (List.getElem_mem _)
      have a2 := h.ent l[j] (List.getElem_mem _)
      generalize l[i] = e at *
      generalize l[j] = f at *
      have hd : 0 < f.1 - e.1 := by omega
      have hdR := Rat.intCast_pos.2 hd
      refine le_of_mulR hdR ?_
      show rq (fr (f.2.1 - e.2.2) (f.1 - e.1)) * _ ≤ _
      rw [rq_fr_mul hd, Rat.intCast_sub, Rat.intCast_sub]
      grind
  · rcases pairsL_mem.1 mq with rfl | ⟨i, j, h1, h2, rfl⟩
    · show _ ≤ rq (hi, 1)
      rw [rq_int]; exact h.rate.2
    · have hgi : l[i]? = some l[i] := List.getElem?_eq_getElem _
      have hgj : l[j]? = some l[j] := List.getElem?_eq_getElem _
      have hlt := hS.inc _ _ _ _ h1 hgi hgj
      rw [bndOf_two hgi hgj]
      have a1 := h.ent l[i] (List.getElem_mem _)
      have a2 := h.ent l[j] (List.getElem_mem _)
      generalize l[i] = e at *
      generalize l[j] = f at *
      have hd : 0 < f.1 - e.1 := by omega
      have hdR := Rat.intCast_pos.2 hd
      refine le_of_mulR hdR ?_
      show _ ≤ rq (fr (f.2.2 - e.2.1) (f.1 - e.1)) * _
      rw [rq_fr_mul hd, Rat.intCast_sub, Rat.intCast_sub]
      grind

theorem mot_has {lo hi : Int} {l : List E} {m : Mo} (h : MotIn lo hi l m) : hasM lo hi l = true := by
  have hS := starErr_ok h.st
  have h1 := (loQ_bd hS).2
  have h2 := (hiQ_bd hS).2
  have h3 := mot_rate h
  have := Rat.le_trans h3.1 h3.2
  rw [rq_le (by omega) (by omega)] at this
  unfold hasM
  simp
  exact this

theorem mot_side {lo hi : Int} {l : List E} {m : Mo} (h : MotIn lo hi l m) {s : Int} (hs : s = 0 ∨ s = 1) (t : Int) : tq s m.1 + tq s m.2 * (t : Rat) ≤ valM s (farA s lo hi l t) t := by
  have hS := starErr_ok h.st
  have h1 := (loQ_bd hS).2
  have h2 := (hiQ_bd hS).2
  have hf := farM_ok hS (s := s) (t := t) hs (by omega : 0 < (loQ lo hi l).2) (by omega : 0 < (hiQ lo hi l).2) (hasM_le hS (mot_has h))
  have h3 := mot_rate h
  have hr : loS s (loQ lo hi l) (hiQ lo hi l) ≤ tq s m.2 ∧ tq s m.2 ≤ hiS s (loQ lo hi l) (hiQ lo hi l) := by
    unfold loS hiS tq
    rcases hs with rfl | rfl
    · rw [if_neg (by decide), if_neg (by decide), if_neg (by decide)]; grind
    · rw [if_pos rfl, if_pos rfl, if_pos rfl]; exact h3
  refine hf.top.top _ (dual1 hr.1 hr.2 fun p hp => ?_)
  obtain ⟨e, he, rfl⟩ := List.mem_map.1 hp
  have h4 := h.ent e he
  have h5 : tq s m.1 + tq s m.2 * (e.1 : Rat) ≤ upS s e := by
    unfold tq upS
    rcases hs with rfl | rfl
    · rw [if_neg (by decide), if_neg (by decide), if_neg (by decide)]; grind
    · rw [if_pos rfl, if_pos rfl, if_pos rfl]; exact h4.2
  unfold ptS
  grind

/-- The place of a motion that agrees lies between both ends. -/
theorem mot_place {lo hi : Int} {l : List E} {m : Mo} (h : MotIn lo hi l m) (t : Int) : rq (plcQ (farA 0 lo hi l t) t) ≤ rq (plcQ m t) ∧ rq (plcQ m t) ≤ rq (plcQ (farA 1 lo hi l t) t) := by
  have h0 := mot_side h (.inl rfl) t
  have h1 := mot_side h (.inr rfl) t
  rw [plc_rat h.p1 h.p2]
  unfold valM tq at h0 h1
  rw [if_neg (by decide), if_neg (by decide), if_neg (by decide)] at h0
  rw [if_pos rfl, if_pos rfl, if_pos rfl] at h1
  constructor <;> grind

theorem hiIn_pr {Pr : Int × Int → Prop} {t : Int} {e : E} : ∀ (L : List E) (x : Int × Int), Pr x → (∀ f ∈ L, okPair t e f → Pr (termP t e f)) → Pr (hiIn t e x L)
  | [], _, hx, _ => hx
  | f :: L, x, hx, hL => by
    refine hiIn_pr L (inH t e x f) ?_ (fun g hg => hL g (List.mem_cons_of_mem _ hg))
    unfold inH
    split
    · exact hx
    · split
      · exact hL f (List.mem_cons_self ..) (by unfold okPair; omega)
      · exact hx
theorem hiGo_pr {Pr : Int × Int → Prop} {t : Int} {a b : Int × Int} : ∀ (l : List E) (x : Int × Int) (fst : Bool), (fst = true → 0 < l.length) → (fst = false → Pr x) → (∀ e ∈ l, Pr (termI t a b e)) → (l.Pairwise fun e f => okPair t e f → Pr (termP t e f)) → Pr (hiGo t a b fst x l)
  | [], x, fst, h0, hx, _, _ => by
    cases fst with
    | true => exact absurd (h0 rfl) (Nat.lt_irrefl 0)
    | false => exact hx rfl
  | e :: l, x, fst, _, hx, hI, hp => by
    rw [List.pairwise_cons] at hp
    have hT := hI e (List.mem_cons_self ..)
    refine hiGo_pr l _ false (fun h => by cases h) (fun _ => hiIn_pr l _ ?_ hp.1) (fun f hf => hI f (List.mem_cons_of_mem _ hf)) hp.2
    cases fst with
    | true => rw [Bool.true_or, if_pos rfl]; exact hT
    | false =>
      rw [Bool.false_or]
      split
      · exact hT
      · exact hx rfl

theorem hiQt_okH {lo hi : Int} {l : List E} (hS : OkS lo hi l) {t : Int} (ht : 0 ≤ t ∧ t ≤ 200) : OkH (hiQt t (loQ lo hi l) (hiQ lo hi l) l) := by
  refine hiGo_pr l (0, 0) true (fun _ => hS.one) (fun h => by cases h) (fun e he => ?_) ?_
  · obtain ⟨i, hi'⟩ := List.mem_iff_getElem?.1 he
    exact termI_ok (loQ_bd hS) (hiQ_bd hS) ht (hS.ent i e hi')
  · rw [List.pairwise_iff_getElem]
    intro i j hi' hj' hij hok
    have hgi : l[i]? = some l[i] := List.getElem?_eq_getElem _
    have hgj : l[j]? = some l[j] := List.getElem?_eq_getElem _
    exact (termP_ok ht (hS.ent _ _ hgi) (hS.ent _ _ hgj) (hS.inc _ _ _ _ hij hgi hgj) hok.1 hok.2).ok

/-- The ends are small, and in order. -/
structure EndsOk (lo hi : Int) (l : List E) (t : Int) : Prop where
  a : OkH (plcQ (farA 0 lo hi l t) t)
  b : OkH (plcQ (farA 1 lo hi l t) t)
  le : rq (plcQ (farA 0 lo hi l t) t) ≤ rq (plcQ (farA 1 lo hi l t) t)

theorem ends_small {lo hi : Int} {l : List E} (h0 : starErr lo hi l = 0) (hm : hasM lo hi l = true) {t : Int} (ht : 0 ≤ t ∧ t ≤ 200) : EndsOk lo hi l t := by
  have hS := starErr_ok h0
  have o0 := hiQt_okH (turn_OkS hS) ht
  have o1 := hiQt_okH hS ht
  have e0 := place0 hS hm t
  have e1 := place1 hS hm t
  have hin := mot_in (far_err h0 hm (s := 0) (t := t) (.inl rfl)).1
  refine ⟨?_, by rw [e1]; exact o1, (mot_place hin t).2⟩
  rw [e0]
  obtain ⟨n, d⟩ := o0
  unfold negQ
  exact ⟨by dsimp only; omega, d⟩
end Go.Proofs.D

namespace Go.Proofs.D
open Go.As
set_option maxRecDepth 20000
set_option linter.unusedVariables false
set_option linter.unusedSimpArgs false

def smallB (q : Int × Int) : Bool := decide ((-100000000 ≤ q.1 ∧ q.1 ≤ 100000000) ∧ 1 ≤ q.2 ∧ q.2 ≤ 200)
theorem small_ok (h : H) (q : Int × Int) : CallOk Try.prog 88 [qV q] h (.bool (smallB q)) h := by
  refine CallOk.run0 Try.func88 rfl rfl rfl rfl rfl (WpR.of_vc ?_)
  (conv => whnf); (repeat' (first | ((with_reducible refine ifb_mk (fun hc => ?_) (fun hc => ?_)) <;> ((try simp only [decide_eq_true_eq, decide_eq_false_iff_not, Bool.not_eq_true', Bool.not_eq_false', Int.not_lt, Int.not_le, ne_eq, Decidable.not_not, beq_iff_eq, List.cons.injEq, and_true] at hc); (first | (exfalso; omega) | conv => whnf))) | ((with_reducible refine And.intro True.intro ?_); conv => whnf) | ((with_reducible refine And.intro ?hh ?_); (case hh => (unfold InR; (try dsimp only); omega)); conv => whnf) | ((with_reducible refine And.intro ?hh ?_); (case hh => ((try dsimp only); omega)); conv => whnf) | ((with_reducible refine And.intro ?hh ?_); (case hh => ((conv => whnf); (repeat' (first | exact True.intro | rfl | refine And.intro ?_ ?_)); done)); conv => whnf) | fail))
  all_goals (refine ⟨[], ?_, rfl, rfl, trivial, (by (repeat' (first | exact True.intro | rfl | refine And.intro ?_ ?_)))⟩; first | rfl | (simp only [renV, renL]; first | done | rfl | (congr 1; grind [smallB]) | grind [smallB]))

theorem fine_ok (h : H) (lo hi : Int) (l : List E) (sv : V) (hl : l.length ≤ 9223372036854775807) (hs : SlC h (entVs l) l.length sv) :
    CallOk Try.prog 41 [starV lo hi sv] h (.bool (decide (starErr lo hi l = 0))) h := by
  obtain ⟨vo, svC, hsv, hca, hvw⟩ := hs.view 0
  refine CallOk.run Try.func41 rfl rfl (argsC := [starV lo hi svC]) (Nat.le_of_ble_eq_true rfl) [vo] (.cons (CaL.agg (.cons (.bare rfl) (.cons (.bare rfl) (.cons (hca _ rfl) .nil)))) .nil) (viewMc1 entVs_bare hvw) rfl (WpR.of_vc ?_)
  have hBare := @entVs_bare l
  have hb : (20 : Int) < l.length → starErr lo hi l = 6 := fun h => by unfold starErr; rw [if_pos (by omega)]
  have k0 := fun h' sv' hs' => great_ok h' lo hi l sv' hl hs'
  have k1 := fun h' sv' hs' => refCheckStar_ok h' lo hi l sv' hl hs'
  generalize starErr lo hi l = e at k1 hb
  cases hsv with
  | nil h0 =>
    have hd : decide ((20 : Int) < (l.length : Int)) = false := by rw [h0]; rfl
    simp only [hd] at k0
    (conv => whnf); (repeat' (first | ((with_reducible refine ifb_mk (fun hc => ?_) (fun hc => ?_)) <;> ((try simp only [decide_eq_true_eq, decide_eq_false_iff_not, Bool.not_eq_true', Bool.not_eq_false', Int.not_lt, Int.not_le, ne_eq, Decidable.not_not, beq_iff_eq, List.cons.injEq, and_true] at hc); (first | (exfalso; omega) | conv => whnf))) | ((with_reducible refine And.intro True.intro ?_); conv => whnf) | ((with_reducible refine CallX.all ?_); refine CallW.of_ok (k0 _ _ (SlC.none h0)) ?_; conv => whnf) | ((with_reducible refine CallX.all ?_); refine CallW.of_ok (k1 _ _ (SlC.none h0)) ?_; conv => whnf) | ((with_reducible refine And.intro ?hh ?_); (case hh => (unfold InR; (try dsimp only); omega)); conv => whnf) | ((with_reducible refine And.intro ?hh ?_); (case hh => ((try dsimp only); omega)); conv => whnf) | ((with_reducible refine And.intro ?hh ?_); (case hh => ((conv => whnf); (repeat' (first | exact True.intro | rfl | refine And.intro ?_ ?_)); done)); conv => whnf) | fail))
    all_goals (refine ⟨[], ?_, rfl, rfl, trivial, (by (repeat' (first | exact True.intro | rfl | refine And.intro ?_ ?_)))⟩; simp only [renV, renL]; (first | done | rfl | simp | grind))
  | @sl cap ex =>
    by_cases hb2 : (20 : Int) < l.length
    · simp only [decide_eq_true hb2] at k0
      have h6 := hb hb2
      (conv => whnf); (repeat' (first | ((with_reducible refine ifb_mk (fun hc => ?_) (fun hc => ?_)) <;> ((try simp only [decide_eq_true_eq, decide_eq_false_iff_not, Bool.not_eq_true', Bool.not_eq_false', Int.not_lt, Int.not_le, ne_eq, Decidable.not_not, beq_iff_eq, List.cons.injEq, and_true] at hc); (first | (exfalso; omega) | conv => whnf))) | ((with_reducible refine And.intro True.intro ?_); conv => whnf) | ((with_reducible refine CallX.all ?_); refine CallW.of_ok (k0 _ _ (SlC.own rfl)) ?_; conv => whnf) | ((with_reducible refine CallX.all ?_); refine CallW.of_ok (k1 _ _ (SlC.own rfl)) ?_; conv => whnf) | ((with_reducible refine And.intro ?hh ?_); (case hh => (unfold InR; (try dsimp only); omega)); conv => whnf) | ((with_reducible refine And.intro ?hh ?_); (case hh => ((try dsimp only); omega)); conv => whnf) | ((with_reducible refine And.intro ?hh ?_); (case hh => ((conv => whnf); (repeat' (first | exact True.intro | rfl | refine And.intro ?_ ?_)); done)); conv => whnf) | fail))
      all_goals (refine ⟨[], ?_, rfl, rfl, trivial, (by (repeat' (first | exact True.intro | rfl | refine And.intro ?_ ?_)))⟩; simp only [renV, renL]; rw [decide_eq_false (by omega)])
    · simp only [decide_eq_false hb2] at k0
      (conv => whnf); (repeat' (first | ((with_reducible refine ifb_mk (fun hc => ?_) (fun hc => ?_)) <;> ((try simp only [decide_eq_true_eq, decide_eq_false_iff_not, Bool.not_eq_true', Bool.not_eq_false', Int.not_lt, Int.not_le, ne_eq, Decidable.not_not, beq_iff_eq, List.cons.injEq, and_true] at hc); (first | (exfalso; omega) | conv => whnf))) | ((with_reducible refine And.intro True.intro ?_); conv => whnf) | ((with_reducible refine CallX.all ?_); refine CallW.of_ok (k0 _ _ (SlC.own rfl)) ?_; conv => whnf) | ((with_reducible refine CallX.all ?_); refine CallW.of_ok (k1 _ _ (SlC.own rfl)) ?_; conv => whnf) | ((with_reducible refine And.intro ?hh ?_); (case hh => (unfold InR; (try dsimp only); omega)); conv => whnf) | ((with_reducible refine And.intro ?hh ?_); (case hh => ((try dsimp only); omega)); conv => whnf) | ((with_reducible refine And.intro ?hh ?_); (case hh => ((conv => whnf); (repeat' (first | exact True.intro | rfl | refine And.intro ?_ ?_)); done)); conv => whnf) | fail))
      all_goals (refine ⟨[], ?_, rfl, rfl, trivial, (by (repeat' (first | exact True.intro | rfl | refine And.intro ?_ ?_)))⟩; simp only [renV, renL]; (first | done | rfl | simp | grind))

theorem smallB_of {q : Int × Int} (h : OkH q) : smallB q = true := decide_eq_true ⟨by have := h.n; omega, h.d⟩
theorem smallB_of2 {q : Int × Int} (h1 : -20000 ≤ q.1 ∧ q.1 ≤ 20000) (h2 : 1 ≤ q.2 ∧ q.2 ≤ 200) : smallB q = true := decide_eq_true ⟨by omega, h2⟩

/-- What ends says of a valid star. -/
def endsA (lo hi : Int) (l : List E) (y : Int) : (Bd × Bd) × Int := if hasM lo hi l then (((loQ lo hi l, hiQ lo hi l), (plcQ (farA 0 lo hi l y) y, plcQ (farA 1 lo hi l y) y)), 0) else ((((0, 0), (0, 0)), ((0, 0), (0, 0))), 17)
def endsV (x : Bd × Bd) : V := .agg [.int .i64 x.1.1.1, .int .i64 x.1.1.2, .int .i64 x.1.2.1, .int .i64 x.1.2.2, .int .i64 x.2.1.1, .int .i64 x.2.1.2, .int .i64 x.2.2.1, .int .i64 x.2.2.2]

set_option maxHeartbeats 1000000 in
theorem ends_ok (h : H) (lo hi : Int) (l : List E) (h0 : starErr lo hi l = 0) (sv : V) (y : Int) (hy : 0 ≤ y ∧ y ≤ 200) (hl : l.length ≤ 9223372036854775807) (hs : SlC h (entVs l) l.length sv) :
    CallOk Try.prog 42 [starV lo hi sv, .int .i64 y] h (.tup [endsV (endsA lo hi l y).1, .int .i64 (endsA lo hi l y).2, .bool true]) h := by
  have hS := starErr_ok h0
  obtain ⟨vo, svC, hsv, hca, hvw⟩ := hs.view 0
  obtain ⟨cap, ex, rfl⟩ := Sv.pos hsv hS.one
  have q2 : eqOk Try.prog 30 2 = true := by kernel_rfl
  refine CallOk.run Try.func42 rfl rfl (argsC := [starV lo hi (.sl 0 0 l.length cap ex), .int .i64 y]) (Nat.le_of_ble_eq_true rfl) [vo] (.cons (CaL.agg (.cons (.bare rfl) (.cons (.bare rfl) (.cons (hca _ rfl) .nil)))) (CaL.lt0 rfl)) (viewMc1 entVs_bare hvw) rfl (WpR.of_vc ?_)
  have hBare := @entVs_bare l
  have k1 := fun h' sv' hs' => rate_ok h' lo hi l sv' hl hs'
  have k3 := fun h' sv' hs' => place_ok h' lo hi l sv' y hl hs'
  have k4 := fun h' sv' hs' => motion_ok h' lo hi l sv' y false hl hs'
  have k5 := fun h' sv' hs' => motion_ok h' lo hi l sv' y true hl hs'
  cases hm : hasM lo hi l with
  | true =>
    have e1 : staErr lo hi l = 0 := by unfold staErr; rw [if_pos h0, hm]; rfl
    have e2 : plErr lo hi l y = 0 := by unfold plErr; rw [if_pos h0, if_pos hy]; exact e1
    have e3 : ∀ high, motA lo hi l y high = (farA (sideN high) lo hi l y, 0) := fun high => by unfold motA; rw [if_pos e2]
    have e4 : plcA lo hi l y = ((plcQ (farA 0 lo hi l y) y, plcQ (farA 1 lo hi l y) y), 0) := by unfold plcA; rw [if_pos e2]
    have e5 : rateA lo hi l = ((loQ lo hi l, hiQ lo hi l), 0) := by unfold rateA; rw [if_pos e1]
    have e6 : endsA lo hi l y = (((loQ lo hi l, hiQ lo hi l), (plcQ (farA 0 lo hi l y) y, plcQ (farA 1 lo hi l y) y)), 0) := by unfold endsA; rw [hm]; rfl
    obtain ⟨oa, ob, ole⟩ := ends_small h0 hm hy
    have la := loQ_bd hS
    have lb := hiQ_bd hS
    have hlt1 : ¬ (hiQ lo hi l).1 * (loQ lo hi l).2 < (loQ lo hi l).1 * (hiQ lo hi l).2 := by
      have := hasM_le hS hm
      rw [rq_le (by omega) (by omega)] at this
      omega
    have hlt2 : ¬ (plcQ (farA 1 lo hi l y) y).1 * (plcQ (farA 0 lo hi l y) y).2 < (plcQ (farA 0 lo hi l y) y).1 * (plcQ (farA 1 lo hi l y) y).2 := by
      have := ole
      have da := oa.d
      have db := ob.d
      rw [rq_le (by omega) (by omega)] at this
      omega
    obtain ⟨m1, m2, m3⟩ := far_err h0 hm (s := 0) (t := y) (.inl rfl)
    obtain ⟨n1, n2, n3⟩ := far_err h0 hm (s := 1) (t := y) (.inr rfl)
    have k6 := fun h' sv' hs' => refCheckMotion_ok h' lo hi l sv' (farA 0 lo hi l y) hl hs'
    have k7 := fun h' sv' hs' => refCheckMotion_ok h' lo hi l sv' (farA 1 lo hi l y) hl hs'
    have k8 := fun h' => at_ok h' (farA 0 lo hi l y) y m2 m3 hy
    have k9 := fun h' => at_ok h' (farA 1 lo hi l y) y n2 n3 hy
    rw [m1] at k6
    rw [n1] at k7
    rw [e4] at k3
    rw [e3] at k4 k5
    rw [e5] at k1
    rw [e6]
    have s0 : sideN false = 0 := rfl
    have s1 : sideN true = 1 := rfl
    rw [s0] at k4
    rw [s1] at k5
    clear m1 m2 m3 n1 n2 n3 e1 e2 e3 e4 e5 e6 s0 s1 ole
    generalize plcQ (farA 0 lo hi l y) y = A at *
    generalize plcQ (farA 1 lo hi l y) y = B at *
    generalize farA 0 lo hi l y = u at *
    generalize farA 1 lo hi l y = w at *
    generalize loQ lo hi l = P at *
    generalize hiQ lo hi l = Q at *
    have z1 : ∀ h', CallOk Try.prog 88 [qV P] h' (.bool true) h' := fun h' => by have := small_ok h' P; rwa [smallB_of2 la.1 la.2] at this
    have z2 : ∀ h', CallOk Try.prog 88 [qV Q] h' (.bool true) h' := fun h' => by have := small_ok h' Q; rwa [smallB_of2 lb.1 lb.2] at this
    have z3 : ∀ h', CallOk Try.prog 88 [qV A] h' (.bool true) h' := fun h' => by have := small_ok h' A; rwa [smallB_of oa] at this
    have z4 : ∀ h', CallOk Try.prog 88 [qV B] h' (.bool true) h' := fun h' => by have := small_ok h' B; rwa [smallB_of ob] at this
    have z5 : ∀ h', CallOk Try.prog 46 [qV Q, qV P] h' (.bool false) h' := fun h' => by have := refLess_ok h' Q.1 Q.2 P.1 P.2 (InR_mul lb.1 la.2) (InR_mul la.1 lb.2); rwa [decide_eq_false hlt1] at this
    have z6 : ∀ h', CallOk Try.prog 46 [qV B, qV A] h' (.bool false) h' := fun h' => by have := refLess_ok h' B.1 B.2 A.1 A.2 (InR_mul6 ob.n oa.d) (InR_mul6 oa.n ob.d); rwa [decide_eq_false hlt2] at this
    (conv => whnf); (repeat' (first | ((with_reducible refine ifb_mk (fun hc => ?_) (fun hc => ?_)) <;> ((try simp only [decide_eq_true_eq, decide_eq_false_iff_not, Bool.not_eq_true', Bool.not_eq_false', Int.not_lt, Int.not_le, ne_eq, Decidable.not_not, beq_iff_eq, List.cons.injEq, and_true] at hc); (first | (exfalso; omega) | conv => whnf))) | ((with_reducible refine And.intro True.intro ?_); conv => whnf) | ((with_reducible refine grd_slow ?_); refine som_mk (a := ?_) ?hh ?_; (case hh => exact slow_eql_self q2 [_, _]); conv => whnf) | ((with_reducible refine CallX.all ?_); refine CallW.of_ok (k1 _ _ (SlC.own rfl)) ?_; conv => whnf) | ((with_reducible refine CallX.all ?_); refine CallW.of_ok (k3 _ _ (SlC.own rfl)) ?_; conv => whnf) | ((with_reducible refine CallX.all ?_); refine CallW.of_ok (k4 _ _ (SlC.own rfl)) ?_; conv => whnf) | ((with_reducible refine CallX.all ?_); refine CallW.of_ok (k5 _ _ (SlC.own rfl)) ?_; conv => whnf) | ((with_reducible refine CallX.all ?_); refine CallW.of_ok (z1 _) ?_; conv => whnf) | ((with_reducible refine CallX.all ?_); refine CallW.of_ok (z2 _) ?_; conv => whnf) | ((with_reducible refine CallX.all ?_); refine CallW.of_ok (z3 _) ?_; conv => whnf) | ((with_reducible refine CallX.all ?_); refine CallW.of_ok (z4 _) ?_; conv => whnf) | ((with_reducible refine CallX.all ?_); refine CallW.of_ok (z5 _) ?_; conv => whnf) | ((with_reducible refine CallX.all ?_); refine CallW.of_ok (z6 _) ?_; conv => whnf) | ((with_reducible refine CallX.all ?_); refine CallW.of_ok (k6 _ _ (SlC.own rfl)) ?_; conv => whnf) | ((with_reducible refine CallX.all ?_); refine CallW.of_ok (k7 _ _ (SlC.own rfl)) ?_; conv => whnf) | ((with_reducible refine WpR.draw (id := 10) mixed [0, 1, 2, 3, 4, 5, 7, 6, 8, 9, 10, 11, 12, 14, 13, 15, 16, 17, 18, 19] [0, 0, 0, 4, 12, 12, 60, 12, 252, 508, 1020, 2044, 2044, 8188, 2044, 32764, 65532, 16381, 147455, 524287] ?hh ?_); (case hh => kernel_rfl); conv => whnf) | ((with_reducible refine grd_ex ?_); refine ex_ok (k8 _) ?_; conv => whnf) | ((with_reducible refine grd_ex ?_); refine ex_ok (k9 _) ?_; conv => whnf) | ((with_reducible refine And.intro ?hh ?_); (case hh => (unfold InR; (try dsimp only); omega)); conv => whnf) | ((with_reducible refine And.intro ?hh ?_); (case hh => ((try dsimp only); omega)); conv => whnf) | ((with_reducible refine And.intro ?hh ?_); (case hh => ((conv => whnf); (repeat' (first | exact True.intro | rfl | refine And.intro ?_ ?_)); done)); conv => whnf) | fail))
    all_goals (first | (exfalso; omega) | (refine ⟨[], ?_, rfl, rfl, trivial, (by (repeat' (first | exact True.intro | rfl | refine And.intro ?_ ?_)))⟩; simp only [renV, renL]; (first | done | rfl | simp | grind)))
  | false =>
    have e1 : staErr lo hi l = 17 := by unfold staErr; rw [if_pos h0, hm]; rfl
    have e2 : plErr lo hi l y = 17 := by unfold plErr; rw [if_pos h0, if_pos hy]; exact e1
    have e4 : plcA lo hi l y = (((0, 0), (0, 0)), 17) := by unfold plcA; rw [if_neg (by omega), e2]
    have e5 : rateA lo hi l = (((0, 0), (0, 0)), 17) := by unfold rateA; rw [if_neg (by omega), e1]
    have e6 : endsA lo hi l y = ((((0, 0), (0, 0)), ((0, 0), (0, 0))), 17) := by unfold endsA; rw [hm]; rfl
    rw [e4] at k3
    rw [e5] at k1
    rw [e6]
    (conv => whnf); (repeat' (first | ((with_reducible refine ifb_mk (fun hc => ?_) (fun hc => ?_)) <;> ((try simp only [decide_eq_true_eq, decide_eq_false_iff_not, Bool.not_eq_true', Bool.not_eq_false', Int.not_lt, Int.not_le, ne_eq, Decidable.not_not, beq_iff_eq, List.cons.injEq, and_true] at hc); (first | (exfalso; omega) | conv => whnf))) | ((with_reducible refine And.intro True.intro ?_); conv => whnf) | ((with_reducible refine CallX.all ?_); refine CallW.of_ok (k1 _ _ (SlC.own rfl)) ?_; conv => whnf) | ((with_reducible refine CallX.all ?_); refine CallW.of_ok (k3 _ _ (SlC.own rfl)) ?_; conv => whnf) | ((with_reducible refine And.intro ?hh ?_); (case hh => (unfold InR; (try dsimp only); omega)); conv => whnf) | ((with_reducible refine And.intro ?hh ?_); (case hh => ((try dsimp only); omega)); conv => whnf) | ((with_reducible refine And.intro ?hh ?_); (case hh => ((conv => whnf); (repeat' (first | exact True.intro | rfl | refine And.intro ?_ ?_)); done)); conv => whnf) | fail))
    all_goals (first | (exfalso; omega) | (refine ⟨[], ?_, rfl, rfl, trivial, (by (repeat' (first | exact True.intro | rfl | refine And.intro ?_ ?_)))⟩; simp only [renV, renL]; (first | done | rfl | simp | grind)))
end Go.Proofs.D

namespace Go.Proofs.D
open Go.As
set_option maxRecDepth 20000
set_option linter.unusedVariables false
set_option linter.unusedSimpArgs false

theorem year_bd {yr : Int} (h : 0 ≤ yr ∧ yr ≤ 255) : 0 ≤ (IntKind.i64.wrap yr).tmod 201 ∧ (IntKind.i64.wrap yr).tmod 201 ≤ 200 := by
  obtain ⟨n, rfl⟩ : ∃ n : Nat, yr = n := ⟨yr.toNat, by omega⟩
  have hw : IntKind.i64.wrap (n : Int) = (n : Int) := wrap_in (by show Nat.ble n 9223372036854775807 = true; rw [Nat.ble_eq]; omega)
  rw [hw]
  have := Int.tmod_nonneg 201 h.1
  have := Int.tmod_lt_of_pos (n : Int) (show (0 : Int) < 201 by decide)
  omega

end Go.Proofs.D

namespace Go.Proofs.D
open Go.As
set_option maxRecDepth 20000
set_option linter.unusedVariables false
set_option linter.unusedSimpArgs false

/-! ### Midway between two years -/

def openQ (a b : Int × Int) : Int × Int := fr (b.1 * a.2 - a.1 * b.2) (b.2 * a.2)
structure OkW (x : Int × Int) : Prop where
  n : 0 ≤ x.1 ∧ x.1 ≤ 2400000000
  d : 1 ≤ x.2 ∧ x.2 ≤ 40000

structure AbvP (vq vr uq ur wq wr v2 u2 w2 : Int) : Prop where
  le : (2 * vq - uq - wq) * v2 * u2 * w2 + (2 * vr * u2 * w2 - ur * v2 * w2 - wr * v2 * u2) ≤ 0
  top : 2 * vq - uq - wq ≤ 1

end Go.Proofs.D

namespace Go.Proofs.D
open Go.As
set_option maxRecDepth 20000
set_option linter.unusedVariables false
set_option linter.unusedSimpArgs false

/-- What the law compares. -/
structure MidOk (lo hi : Int) (l : List E) (x y z : Int) : Prop where
  a : EndsOk lo hi l x
  b : EndsOk lo hi l y
  c : EndsOk lo hi l z
  le : 2 * (openQ (plcQ (farA 0 lo hi l y) y) (plcQ (farA 1 lo hi l y) y)).1 * (openQ (plcQ (farA 0 lo hi l x) x) (plcQ (farA 1 lo hi l x) x)).2 * (openQ (plcQ (farA 0 lo hi l z) z) (plcQ (farA 1 lo hi l z) z)).2 ≤ (openQ (plcQ (farA 0 lo hi l x) x) (plcQ (farA 1 lo hi l x) x)).1 * (openQ (plcQ (farA 0 lo hi l y) y) (plcQ (farA 1 lo hi l y) y)).2 * (openQ (plcQ (farA 0 lo hi l z) z) (plcQ (farA 1 lo hi l z) z)).2 + (openQ (plcQ (farA 0 lo hi l z) z) (plcQ (farA 1 lo hi l z) z)).1 * (openQ (plcQ (farA 0 lo hi l y) y) (plcQ (farA 1 lo hi l y) y)).2 * (openQ (plcQ (farA 0 lo hi l x) x) (plcQ (farA 1 lo hi l x) x)).2

end Go.Proofs.D

