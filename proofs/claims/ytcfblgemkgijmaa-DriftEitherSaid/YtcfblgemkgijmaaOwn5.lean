/- What the functions answer that the laws call, one after another, part 5. -/
import Derived.Test.YtcfblgemkgijmaaOwn4

set_option linter.unusedVariables false
namespace Go.Proofs.D

/-! ### The farthest place of all motions: of lines that hold it back -/

structure LeT (P : List (Rat × Rat)) (t a b x : Rat) : Prop where
  low : ∀ p ∈ P, p.1 ≤ t → x ≤ p.2 + b * (t - p.1)
  high : ∀ p ∈ P, t < p.1 → x ≤ p.2 + a * (t - p.1)
  two : ∀ p ∈ P, ∀ q ∈ P, p.1 ≤ t → t ≤ q.1 → p.1 < q.1 → x * (q.1 - p.1) ≤ p.2 * (q.1 - t) + q.2 * (t - p.1)

def LeF (P : List (Rat × Rat)) (t v x : Rat) : Prop := ∀ p ∈ P, x ≤ p.2 + v * (t - p.1)

def Corner (P : List (Rat × Rat)) (a b v : Rat) : Prop := v = a ∨ v = b ∨ ∃ p ∈ P, ∃ q ∈ P, p.1 < q.1 ∧ v * (q.1 - p.1) = q.2 - p.2 ∧ a < v ∧ v < b

theorem mul_mono {a b c : Rat} (h : a ≤ b) (hc : 0 ≤ c) : a * c ≤ b * c := by
  have := Rat.mul_le_mul_of_nonneg_left h hc
  grind
theorem mul_anti {a b c : Rat} (h : a ≤ b) (hc : c ≤ 0) : b * c ≤ a * c := by
  have := Rat.mul_le_mul_of_nonneg_left h (by grind : 0 ≤ -c)
  grind

theorem dual1 {P : List (Rat × Rat)} {t a b v x : Rat} (h1 : a ≤ v) (h2 : v ≤ b) (h : LeF P t v x) : LeT P t a b x where
  low p hp hy := by
    have := h p hp
    have := mul_mono h2 (by grind : 0 ≤ t - p.1)
    grind
  high p hp hy := by
    have := h p hp
    have := mul_anti h1 (by grind : t - p.1 ≤ 0)
    grind
  two p hp q hq hy1 hy2 hlt := by
    have e1 := mul_mono (h p hp) (by grind : 0 ≤ q.1 - t)
    have e2 := mul_mono (h q hq) (by grind : 0 ≤ t - p.1)
    grind

theorem argmin {α : Type} (f : α → Rat) : ∀ (L : List α), L ≠ [] → ∃ x ∈ L, ∀ y ∈ L, f x ≤ f y
  | [], h => absurd rfl h
  | [a], _ => ⟨a, List.mem_cons_self .., fun y hy => by rw [List.mem_singleton.1 hy]; exact Rat.le_refl⟩
  | a :: b :: L, _ => by
    obtain ⟨x, hx, hm⟩ := argmin f (b :: L) (by simp)
    by_cases h : f a ≤ f x
    · refine ⟨a, List.mem_cons_self .., fun y hy => ?_⟩
      rcases List.mem_cons.1 hy with rfl | hy
      · exact Rat.le_refl
      · exact Rat.le_trans h (hm y hy)
    · refine ⟨x, List.mem_cons_of_mem _ hx, fun y hy => ?_⟩
      rcases List.mem_cons.1 hy with rfl | hy
      · exact Rat.le_of_lt (Rat.not_le.1 h)
      · exact hm y hy

theorem dual2 (P : List (Rat × Rat)) (t a b : Rat) (hab : a ≤ b) : ∃ v, Corner P a b v ∧ ∀ x, LeT P t a b x → LeF P t v x := by
  by_cases hB : ∃ q ∈ P, t < q.1
  · by_cases hA : ∃ p ∈ P, p.1 < t
    · obtain ⟨q0, hq0, hq1⟩ := hB
      obtain ⟨p0, hp0, hp1⟩ := hA
      let L := (P.filter fun p => decide (p.1 < t)).flatMap fun p => (P.filter fun q => decide (t < q.1)).map fun q => (p, q)
      have memL : ∀ pq : (Rat × Rat) × (Rat × Rat), pq ∈ L ↔ (pq.1 ∈ P ∧ pq.1.1 < t) ∧ pq.2 ∈ P ∧ t < pq.2.1 := by
        intro pq
        show pq ∈ (P.filter fun p => decide (p.1 < t)).flatMap _ ↔ _
        rw [List.mem_flatMap]
        constructor
        · rintro ⟨p, hp, h⟩
          obtain ⟨q, hq, rfl⟩ := List.mem_map.1 h
          rw [List.mem_filter, decide_eq_true_eq] at hp hq
          exact ⟨hp, hq⟩
        · rintro ⟨h1, h2⟩
          refine ⟨pq.1, List.mem_filter.2 ⟨h1.1, decide_eq_true h1.2⟩, List.mem_map.2 ⟨pq.2, List.mem_filter.2 ⟨h2.1, decide_eq_true h2.2⟩, rfl⟩⟩
      have hne : L ≠ [] := fun hc => by
        have := (memL (p0, q0)).2 ⟨⟨hp0, hp1⟩, hq0, hq1⟩
        rw [hc] at this; cases this
      let f : (Rat × Rat) × (Rat × Rat) → Rat := fun pq => (pq.1.2 * (pq.2.1 - t) + pq.2.2 * (t - pq.1.1)) / (pq.2.1 - pq.1.1)
      obtain ⟨⟨p, q⟩, hpq, hmin⟩ := argmin f L hne
      obtain ⟨⟨hp, hpt⟩, hq, hqt⟩ := (memL _).1 hpq
      dsimp only at hp hpt hq hqt
      have hf : ∀ pq ∈ L, f pq * (pq.2.1 - pq.1.1) = pq.1.2 * (pq.2.1 - t) + pq.2.2 * (t - pq.1.1) := fun pq h => by
        obtain ⟨⟨_, h1⟩, _, h2⟩ := (memL _).1 h
        exact Rat.div_mul_cancel (by grind)
      have hT := hf _ hpq
      dsimp only at hT
      obtain ⟨T, hTd⟩ : ∃ T, T = f (p, q) := ⟨_, rfl⟩
      rw [← hTd] at hT
      have hd : q.1 - p.1 ≠ 0 := by grind
      obtain ⟨v0, hv0⟩ : ∃ v0, v0 * (q.1 - p.1) = q.2 - p.2 := ⟨(q.2 - p.2) / (q.1 - p.1), Rat.div_mul_cancel hd⟩
      -- at v0 both lines are at T
      have hlp : p.2 + v0 * (t - p.1) = T := by
        have : (p.2 + v0 * (t - p.1) - T) * (q.1 - p.1) = 0 := by grind
        rcases Rat.mul_eq_zero.1 this with h | h
        · grind
        · exact absurd h hd
      have hlq : q.2 + v0 * (t - q.1) = T := by grind
      have hA0 : ∀ j ∈ P, j.1 < t → T ≤ j.2 + v0 * (t - j.1) := by
        intro j hj hjt
        have hm : (j, q) ∈ L := (memL _).2 ⟨⟨hj, hjt⟩, hq, hqt⟩
        have h1 := hmin _ hm
        have h2 := hf _ hm
        rw [← hTd] at h1
        dsimp only at h2
        have h3 := mul_mono h1 (by grind : 0 ≤ q.1 - j.1)
        -- (line j at v0 - T) (q - t) is at least 0
        apply Rat.not_lt.1
        intro hc
        have h4 : 0 < (T - (j.2 + v0 * (t - j.1))) * (q.1 - t) := Rat.mul_pos (by grind) (by grind)
        have h5 : q.2 * (t - j.1) = (T - v0 * (t - q.1)) * (t - j.1) := by rw [← hlq]; grind
        rw [h2, h5] at h3
        clear hmin hf h1 h2 hlp hlq hT hTd
        grind
      have hB0 : ∀ j ∈ P, t < j.1 → T ≤ j.2 + v0 * (t - j.1) := by
        intro j hj hjt
        have hm : (p, j) ∈ L := (memL _).2 ⟨⟨hp, hpt⟩, hj, hjt⟩
        have h1 := hmin _ hm
        have h2 := hf _ hm
        rw [← hTd] at h1
        dsimp only at h2
        have h3 := mul_mono h1 (by grind : 0 ≤ j.1 - p.1)
        apply Rat.not_lt.1
        intro hc
        have h4 : 0 < (T - (j.2 + v0 * (t - j.1))) * (t - p.1) := Rat.mul_pos (by grind) (by grind)
        have h5 : p.2 * (j.1 - t) = (T - v0 * (t - p.1)) * (j.1 - t) := by rw [← hlp]; grind
        rw [h2, h5] at h3
        clear hmin hf h1 h2 hlp hlq hT hTd
        grind
      have hxT : ∀ x, LeT P t a b x → x ≤ T := by
        intro x hx
        have h1 := hx.two p hp q hq (Rat.le_of_lt hpt) (Rat.le_of_lt hqt) (by grind)
        apply Rat.not_lt.1
        intro hc
        have h4 : 0 < (x - T) * (q.1 - p.1) := Rat.mul_pos (by grind) (by grind)
        grind
      by_cases hb : b ≤ v0
      · refine ⟨b, .inr (.inl rfl), fun x hx j hj => ?_⟩
        by_cases hjt : j.1 ≤ t
        · exact hx.low j hj hjt
        · have h1 := hB0 j hj (Rat.not_le.1 hjt)
          have h2 := hxT x hx
          have h3 := mul_anti hb (by grind : t - j.1 ≤ 0)
          grind
      · by_cases ha : v0 ≤ a
        · refine ⟨a, .inl rfl, fun x hx j hj => ?_⟩
          by_cases hjt : t < j.1
          · exact hx.high j hj hjt
          · by_cases hje : j.1 = t
            · have := hx.low j hj (by grind)
              grind
            · have h1 := hA0 j hj (by grind)
              have h2 := hxT x hx
              have h3 := mul_mono ha (by grind : 0 ≤ t - j.1)
              grind
        · refine ⟨v0, .inr (.inr ⟨p, hp, q, hq, by grind, hv0, Rat.not_le.1 ha, Rat.not_le.1 hb⟩), fun x hx j hj => ?_⟩
          have h2 := hxT x hx
          by_cases hjt : t < j.1
          · exact Rat.le_trans h2 (hB0 j hj hjt)
          · by_cases hje : j.1 = t
            · have := hx.low j hj (by grind)
              have e : t - j.1 = 0 := by grind
              rw [e, Rat.mul_zero] at this ⊢
              exact this
            · exact Rat.le_trans h2 (hA0 j hj (by grind))
    · refine ⟨a, .inl rfl, fun x hx j hj => ?_⟩
      by_cases hjt : t < j.1
      · exact hx.high j hj hjt
      · have hje : j.1 = t := by
          have : ¬ j.1 < t := fun hc => hA ⟨j, hj, hc⟩
          grind
        have := hx.low j hj (by grind)
        grind
  · refine ⟨b, .inr (.inl rfl), fun x hx j hj => ?_⟩
    have : ¬ t < j.1 := fun hc => hB ⟨j, hj, hc⟩
    exact hx.low j hj (by grind)
end Go.Proofs.D

namespace Go.Proofs.D
open Go.As
set_option maxRecDepth 20000
set_option linter.unusedVariables false
set_option linter.unusedSimpArgs false

/-! ### The reference's greatest place is the greatest that all terms allow -/

theorem rq_fr_mul {n d : Int} (hd : 0 < d) : rq (fr n d) * (d : Rat) = (n : Rat) := by
  rw [rq_fr hd]
  exact Rat.div_mul_cancel (by have := Rat.intCast_pos.2 hd; grind)
theorem rq_mul {x : Int × Int} (hd : 0 < x.2) : rq x * (x.2 : Rat) = (x.1 : Rat) := by
  unfold rq
  exact Rat.div_mul_cancel (by have := Rat.intCast_pos.2 hd; grind)
theorem cancelR {a b c : Rat} (hc : c ≠ 0) (h : a * c = b * c) : a = b := by
  have : (a - b) * c = 0 := by grind
  rcases Rat.mul_eq_zero.1 this with h | h
  · grind
  · exact absurd h hc
theorem sub_nn {a b : Rat} (h : a ≤ b) : 0 ≤ b - a := by grind
theorem sub_ps {a b : Rat} (h : a < b) : 0 < b - a := by grind
theorem le_of_mulR {z w d : Rat} (hd : 0 < d) (h : z * d ≤ w * d) : z ≤ w := by
  apply Rat.not_lt.1
  intro hc
  have := Rat.mul_pos (sub_ps hc) hd
  grind
theorem castNe {d : Int} (hd : 0 < d) : (d : Rat) ≠ 0 := by have := Rat.intCast_pos.2 hd; grind

theorem carried_rat {u d : Int} {r : Int × Int} (hr : 0 < r.2) : rq (fr (u * r.2 + r.1 * d) r.2) = (u : Rat) + rq r * (d : Rat) := by
  apply cancelR (castNe hr)
  rw [rq_fr_mul hr, Rat.intCast_add, Rat.intCast_mul, Rat.intCast_mul]
  have := rq_mul hr
  grind

def ptE (e : E) : Rat × Rat := ((e.1 : Rat), (e.2.2 : Rat))
def okPair (t : Int) (e f : E) : Prop := e.1 ≤ t ∧ t ≤ f.1

theorem termI_rat {t : Int} {a b : Int × Int} {e : E} (ha : 0 < a.2) (hb : 0 < b.2) : rq (termI t a b e) = (ptE e).2 + (if t < e.1 then rq a else rq b) * ((t : Rat) - (ptE e).1) := by
  unfold termI
  split
  · rw [carried_rat ha, Rat.intCast_sub]; rfl
  · rw [carried_rat hb, Rat.intCast_sub]; rfl
theorem termP_rat {t : Int} {e f : E} (h : e.1 < f.1) : rq (termP t e f) * ((ptE f).1 - (ptE e).1) = (ptE e).2 * ((ptE f).1 - (t : Rat)) + (ptE f).2 * ((t : Rat) - (ptE e).1) := by
  have hd : 0 < f.1 - e.1 := by omega
  have := rq_fr_mul (n := e.2.2 * (f.1 - t) + f.2.2 * (t - e.1)) hd
  rw [Rat.intCast_add, Rat.intCast_mul, Rat.intCast_mul, Rat.intCast_sub, Rat.intCast_sub, Rat.intCast_sub] at this
  exact this

theorem ltQ_rat {x y : Int × Int} (hx : 0 < x.2) (hy : 0 < y.2) : ltQ x y = decide (rq x < rq y) := decide_eq_decide.2 (rq_lt hx hy).symm

structure HiIn (t : Int) (e : E) (L : List E) (x g : Int × Int) : Prop where
  le : rq g ≤ rq x
  all : ∀ f ∈ L, okPair t e f → rq g ≤ rq (termP t e f)
  src : g = x ∨ ∃ f ∈ L, okPair t e f ∧ g = termP t e f

theorem hiIn_spec {t : Int} {e : E} : ∀ (L : List E) (x : Int × Int), 0 < x.2 → (∀ f ∈ L, e.1 < f.1) → HiIn t e L x (hiIn t e x L) ∧ 0 < (hiIn t e x L).2
  | [], x, hx, _ => ⟨⟨Rat.le_refl, fun f hf => (by cases hf), .inl rfl⟩, hx⟩
  | f :: L, x, hx, hL => by
    have hp : 0 < (termP t e f).2 := fr_pos (by have := hL f (List.mem_cons_self ..); omega)
    have hstep : 0 < (inH t e x f).2 ∧ rq (inH t e x f) ≤ rq x ∧ (okPair t e f → rq (inH t e x f) ≤ rq (termP t e f)) ∧ (inH t e x f = x ∨ okPair t e f ∧ inH t e x f = termP t e f) := by
      unfold inH
      split
      · rename_i hc
        exact ⟨hx, Rat.le_refl, fun h => by unfold okPair at h; omega, .inl rfl⟩
      · rename_i hc
        rw [ltQ_rat hp hx]
        split
        · rename_i hlt
          exact ⟨hp, Rat.le_of_lt (of_decide_eq_true hlt), fun _ => Rat.le_refl, .inr ⟨by unfold okPair; omega, rfl⟩⟩
        · rename_i hlt
          exact ⟨hx, Rat.le_refl, fun _ => Rat.not_lt.1 (by simpa using hlt), .inl rfl⟩
    obtain ⟨s1, s2, s3, s4⟩ := hstep
    obtain ⟨⟨r1, r2, r3⟩, r4⟩ := hiIn_spec L (inH t e x f) s1 (fun g hg => hL g (List.mem_cons_of_mem _ hg))
    have hdef : hiIn t e x (f :: L) = hiIn t e (inH t e x f) L := rfl
    rw [hdef]
    refine ⟨⟨Rat.le_trans r1 s2, fun g hg hok => ?_, ?_⟩, r4⟩
    · rcases List.mem_cons.1 hg with rfl | hg
      · exact Rat.le_trans r1 (s3 hok)
      · exact r2 g hg hok
    · rcases r3 with h | ⟨g, hg, hok, h⟩
      · rw [h]
        rcases s4 with h4 | ⟨h4, h5⟩
        · exact .inl h4
        · exact .inr ⟨f, List.mem_cons_self .., h4, h5⟩
      · exact .inr ⟨g, List.mem_cons_of_mem _ hg, hok, h⟩

structure HiGo (t : Int) (a b : Int × Int) (l : List E) (x g : Int × Int) : Prop where
  le : rq g ≤ rq x
  one : ∀ e ∈ l, rq g ≤ rq (termI t a b e)
  two : l.Pairwise fun e f => okPair t e f → rq g ≤ rq (termP t e f)
  src : g = x ∨ (∃ e ∈ l, g = termI t a b e) ∨ ∃ e ∈ l, ∃ f ∈ l, e.1 < f.1 ∧ okPair t e f ∧ g = termP t e f

theorem hiGo_spec {t : Int} {a b : Int × Int} (ha : 0 < a.2) (hb : 0 < b.2) : ∀ (l : List E) (x : Int × Int), 0 < x.2 → (l.Pairwise fun e f => e.1 < f.1) → HiGo t a b l x (hiGo t a b false x l) ∧ 0 < (hiGo t a b false x l).2
  | [], x, hx, _ => ⟨⟨Rat.le_refl, fun e he => (by cases he), .nil, .inl rfl⟩, hx⟩
  | e :: l, x, hx, hp => by
    rw [List.pairwise_cons] at hp
    have hT : 0 < (termI t a b e).2 := by unfold termI; split <;> exact fr_pos (by assumption)
    obtain ⟨y, hy⟩ : ∃ y, y = if (false || ltQ (termI t a b e) x) = true then termI t a b e else x := ⟨_, rfl⟩
    have hy1 : 0 < y.2 ∧ rq y ≤ rq x ∧ rq y ≤ rq (termI t a b e) ∧ (y = x ∨ y = termI t a b e) := by
      rw [Bool.false_or, ltQ_rat hT hx] at hy
      by_cases hlt : rq (termI t a b e) < rq x
      · rw [if_pos (decide_eq_true hlt)] at hy; rw [hy]; exact ⟨hT, Rat.le_of_lt hlt, Rat.le_refl, .inr rfl⟩
      · rw [if_neg (by simpa using hlt)] at hy; rw [hy]; exact ⟨hx, Rat.le_refl, Rat.not_lt.1 hlt, .inl rfl⟩
    obtain ⟨y1, y2, y3, y4⟩ := hy1
    obtain ⟨⟨i1, i2, i3⟩, i4⟩ := hiIn_spec (t := t) (e := e) l y y1 hp.1
    obtain ⟨⟨g1, g2, g3, g4⟩, g5⟩ := hiGo_spec ha hb l (hiIn t e y l) i4 hp.2
    have hdef : hiGo t a b false x (e :: l) = hiGo t a b false (hiIn t e y l) l := by rw [hy]; rfl
    rw [hdef]
    refine ⟨⟨Rat.le_trans g1 (Rat.le_trans i1 y2), fun f hf => ?_, ?_, ?_⟩, g5⟩
    · rcases List.mem_cons.1 hf with rfl | hf
      · exact Rat.le_trans g1 (Rat.le_trans i1 y3)
      · exact g2 f hf
    · rw [List.pairwise_cons]
      exact ⟨fun f hf hok => Rat.le_trans g1 (i2 f hf hok), g3⟩
    · rcases g4 with h | ⟨f, hf, h⟩ | ⟨f, hf, f2, hf2, h⟩
      · rw [h]
        rcases i3 with h3 | ⟨f, hf, hok, h3⟩
        · rw [h3]
          rcases y4 with h4 | h4
          · exact .inl h4
          · exact .inr (.inl ⟨e, List.mem_cons_self .., h4⟩)
        · exact .inr (.inr ⟨e, List.mem_cons_self .., f, List.mem_cons_of_mem _ hf, hp.1 f hf, hok, h3⟩)
      · exact .inr (.inl ⟨f, List.mem_cons_of_mem _ hf, h⟩)
      · exact .inr (.inr ⟨f, List.mem_cons_of_mem _ hf, f2, List.mem_cons_of_mem _ hf2, h⟩)

/-- The greatest that all terms allow. -/
structure IsTop (P : List (Rat × Rat)) (t a b x : Rat) : Prop where
  le : LeT P t a b x
  top : ∀ z, LeT P t a b z → z ≤ x

theorem OkS.pw {lo hi : Int} {l : List E} (hS : OkS lo hi l) : l.Pairwise fun e f => e.1 < f.1 := by
  rw [List.pairwise_iff_getElem]
  intro i j hi' hj' hij
  exact hS.inc i j _ _ hij (List.getElem?_eq_getElem hi') (List.getElem?_eq_getElem hj')

theorem hiQt_top {t : Int} {a b : Int × Int} (ha : 0 < a.2) (hb : 0 < b.2) {l : List E} (hl : 0 < l.length) (hp : l.Pairwise fun e f => e.1 < f.1) : IsTop (l.map ptE) (t : Rat) (rq a) (rq b) (rq (hiQt t a b l)) ∧ 0 < (hiQt t a b l).2 := by
  cases l with
  | nil => simp at hl
  | cons e l =>
    have hdef : hiQt t a b (e :: l) = hiGo t a b false (termI t a b e) (e :: l) := by
      show hiGo t a b false (hiIn t e (if (true || ltQ (termI t a b e) (0, 0)) = true then termI t a b e else (0, 0)) l) l = hiGo t a b false (hiIn t e (if (false || ltQ (termI t a b e) (termI t a b e)) = true then termI t a b e else termI t a b e) l) l
      rw [Bool.true_or, if_pos rfl, ite_self]
    have hT : 0 < (termI t a b e).2 := by unfold termI; split <;> exact fr_pos (by assumption)
    obtain ⟨⟨h1, h2, h3, h4⟩, h5⟩ := hiGo_spec (t := t) ha hb (e :: l) (termI t a b e) hT hp
    rw [hdef]
    generalize hiGo t a b false (termI t a b e) (e :: l) = g at *
    have hterm : ∀ f ∈ e :: l, ∀ z, LeT ((e :: l).map ptE) (t : Rat) (rq a) (rq b) z → z ≤ rq (termI t a b f) := by
      intro f hf z hz
      rw [termI_rat ha hb]
      have hm : ptE f ∈ (e :: l).map ptE := List.mem_map.2 ⟨f, hf, rfl⟩
      split
      · rename_i hlt
        exact hz.high _ hm (Rat.intCast_lt_intCast.2 hlt)
      · rename_i hlt
        exact hz.low _ hm (Rat.intCast_le_intCast.2 (by omega))
    refine ⟨⟨⟨fun p hp1 hy => ?_, fun p hp1 hy => ?_, fun p hp1 q hq1 hy1 hy2 hlt => ?_⟩, fun z hz => ?_⟩, h5⟩
    · obtain ⟨f, hf, rfl⟩ := List.mem_map.1 hp1
      have := h2 f hf
      rw [termI_rat ha hb, if_neg (by have := Rat.intCast_le_intCast.1 hy; omega)] at this
      exact this
    · obtain ⟨f, hf, rfl⟩ := List.mem_map.1 hp1
      have := h2 f hf
      rw [termI_rat ha hb, if_pos (Rat.intCast_lt_intCast.1 hy)] at this
      exact this
    · obtain ⟨f, hf, rfl⟩ := List.mem_map.1 hp1
      obtain ⟨f2, hf2, rfl⟩ := List.mem_map.1 hq1
      have hlt' : f.1 < f2.1 := Rat.intCast_lt_intCast.1 hlt
      obtain ⟨i, hi, rfl⟩ := List.getElem_of_mem hf
      obtain ⟨j, hj, rfl⟩ := List.getElem_of_mem hf2
      have hij : i < j := by
        rcases Nat.lt_trichotomy i j with h | rfl | h
        · exact h
        · omega
        · have := List.pairwise_iff_getElem.1 hp j i hj hi h; omega
      have := List.pairwise_iff_getElem.1 h3 i j hi hj hij ⟨Rat.intCast_le_intCast.1 hy1, Rat.intCast_le_intCast.1 hy2⟩
      have h6 := termP_rat (t := t) hlt'
      have h7 := mul_mono this (sub_nn (Rat.le_of_lt hlt))
      rw [h6] at h7
      exact h7
    · rcases h4 with h | ⟨f, hf, h⟩ | ⟨f, hf, f2, hf2, hlt, hok, h⟩
      · rw [h]; exact hterm e (List.mem_cons_self ..) z hz
      · rw [h]; exact hterm f hf z hz
      · rw [h]
        have h6 := termP_rat (t := t) hlt
        have h7 := hz.two (ptE f) (List.mem_map.2 ⟨f, hf, rfl⟩) (ptE f2) (List.mem_map.2 ⟨f2, hf2, rfl⟩) (Rat.intCast_le_intCast.2 hok.1) (Rat.intCast_le_intCast.2 hok.2) (Rat.intCast_lt_intCast.2 hlt)
        rw [← h6] at h7
        exact le_of_mulR (sub_ps (Rat.intCast_lt_intCast.2 hlt : (ptE f).1 < (ptE f2).1)) h7
end Go.Proofs.D

namespace Go.Proofs.D
open Go.As
set_option maxRecDepth 20000
set_option linter.unusedVariables false
set_option linter.unusedSimpArgs false

set_option maxHeartbeats 1000000 in
theorem highest_ok (h : H) (lo hi : Int) (l : List E) (hS : OkS lo hi l) (sv : V) (t : Int) (ht : 0 ≤ t ∧ t ≤ 200) (hs : SlC h (entVs l) l.length sv) :
    CallOk Try.prog 103 [starV lo hi sv, .int .i64 t] h (qV (hiQt t (loQ lo hi l) (hiQ lo hi l) l)) h := by
  obtain ⟨vo, svC, hsv, hca, hvw⟩ := hs.view 0
  obtain ⟨cap, ex, rfl⟩ := Sv.pos hsv hS.one
  have hBare := @entVs_bare l
  have hn := hS.most
  have ha := loQ_bd hS
  have hb := hiQ_bd hS
  have kR := fun h' sv' hs' => refRate2_ok h' lo hi l hS sv' hs'
  generalize loQ lo hi l = a at *
  generalize hiQ lo hi l = b at *
  refine CallOk.run Try.func103 rfl rfl (argsC := [starV lo hi (.sl 0 0 l.length cap ex), .int .i64 t]) (Nat.le_of_ble_eq_true rfl) [vo] (.cons (CaL.agg (.cons (.bare rfl) (.cons (.bare rfl) (.cons (hca _ rfl) .nil)))) (CaL.lt0 rfl)) (viewMc1 entVs_bare hvw) rfl (WpR.of_vc ?_)
  (conv => whnf); (repeat' (first | ((with_reducible refine ifb_mk (fun hc => ?_) (fun hc => ?_)) <;> ((try simp only [decide_eq_true_eq, decide_eq_false_iff_not, Bool.not_eq_true', Bool.not_eq_false', Int.not_lt, Int.not_le, ne_eq, Decidable.not_not, beq_iff_eq, List.cons.injEq, and_true] at hc); (first | (exfalso; omega) | conv => whnf))) | ((with_reducible refine And.intro True.intro ?_); conv => whnf) | ((with_reducible refine CallX.all ?_); refine CallW.of_ok (kR _ _ (SlC.own rfl)) ?_; conv => whnf) | ((with_reducible refine And.intro ?hh ?_); (case hh => (unfold InR; (try dsimp only); omega)); conv => whnf) | ((with_reducible refine And.intro ?hh ?_); (case hh => ((try dsimp only); omega)); conv => whnf) | ((with_reducible refine And.intro ?hh ?_); (case hh => ((conv => whnf); (repeat' (first | exact True.intro | rfl | refine And.intro ?_ ?_)); done)); conv => whnf) | fail))
  refine WpR.loopD (ι := Nat × (Int × Int)) [] [1, 2, 4, 5, 6, 7] [5] [] 6 (fun p => [(8, .int .i64 p.1)]) (fun p => [(5, .cells (ofL [.int .i64 p.2.1, .int .i64 p.2.2] 0) true none)]) (fun p => l.length - p.1) (fun p => p.1 ≤ l.length ∧ (0 < p.1 → OkH p.2) ∧ hiQt t a b l = hiGo t a b (decide (p.1 = 0)) p.2 (l.drop p.1)) ?_ ((0, (0, 0))) (⟨Nat.zero_le _, fun h => absurd h (Nat.lt_irrefl 0), rfl⟩) [] ⟨rfl, rfl, (by (repeat' (first | exact True.intro | rfl | refine And.intro ?_ ?_))), (by (repeat' (first | exact True.intro | rfl | refine And.intro ?_ ?_))), (by (repeat' (first | exact True.intro | rfl | refine And.intro ?_ ?_))), (by (repeat' (first | exact True.intro | exact Or.inl rfl | refine And.intro ?_ ?_ | refine Or.inr ⟨_, rfl, ?_⟩ | exact SubQ.same (n := 1000) (Y := []) (fun _ _ _ => rfl) (by first | exact True.intro | exact ltB_all rfl | exact ltB_ofLb (by first | exact bare0_ints | assumption | (intro v hv; (repeat (rcases List.mem_cons.1 hv with rfl | hv; exact rfl)); cases hv)) | exact ltB_loop rfl rfl | exact hMap _ | exact hMap2 _ | exact grB_lt (by first | exact bare0_ints | assumption | (intro v hv; (repeat (rcases List.mem_cons.1 hv with rfl | hv; exact rfl)); cases hv)) _ | exact ltB_mapB | assumption) (avB_nil _) rfl | exact SubQ.ofL (by first | rfl | simp) (by first | exact bare0_ints | assumption | (intro v hv; (repeat (rcases List.mem_cons.1 hv with rfl | hv; exact rfl)); cases hv)) (by first | exact Or.inl rfl | exact Or.inr rfl) | exact SubQ.fin (by (conv => whnf); (repeat' (first | exact True.intro | rfl | refine And.intro ?_ ?_)); done) (fun h => h) (by first | exact Or.inl rfl | exact Or.inr rfl)))), rfl, rfl⟩ rfl rfl rfl (fun _ => rfl) (by (repeat' (first | exact True.intro | refine And.intro ?_ ?_ | exact avV_nil _ | rfl))) (by (repeat' (first | exact True.intro | (with_reducible exact avB_nil _) | ((with_reducible refine avB_all ?_); rfl) | ((with_reducible refine avB_ofLb ?_); exact (by first | exact bare0_ints | assumption | (intro v hv; (repeat (rcases List.mem_cons.1 hv with rfl | hv; exact rfl)); cases hv))) | ((with_reducible refine ltB_all ?_); rfl) | ((with_reducible refine ltB_ofLb ?_); exact (by first | exact bare0_ints | assumption | (intro v hv; (repeat (rcases List.mem_cons.1 hv with rfl | hv; exact rfl)); cases hv))) | ((with_reducible refine ltB_loop ?_ ?_) <;> rfl) | (with_reducible exact hMap _) | (with_reducible exact hMap2 _) | (with_reducible exact ltB_mapB) | ((with_reducible refine grB_lt ?_ _); exact (by first | exact bare0_ints | assumption | (intro v hv; (repeat (rcases List.mem_cons.1 hv with rfl | hv; exact rfl)); cases hv))) | (with_reducible assumption) | refine And.intro ?_ ?_ | exact (by first | exact True.intro | exact ltB_all rfl | exact ltB_ofLb (by first | exact bare0_ints | assumption | (intro v hv; (repeat (rcases List.mem_cons.1 hv with rfl | hv; exact rfl)); cases hv)) | exact ltB_loop rfl rfl | exact hMap _ | exact hMap2 _ | exact grB_lt (by first | exact bare0_ints | assumption | (intro v hv; (repeat (rcases List.mem_cons.1 hv with rfl | hv; exact rfl)); cases hv)) _ | exact ltB_mapB | assumption)))) (fun _ _ => (by (repeat' (first | exact True.intro | rfl | refine And.intro ?_ ?_ | exact (by decide) | exact (by first | exact True.intro | exact hMap _ | exact hMap2 _ | exact grB_lt (by first | exact bare0_ints | assumption | (intro v hv; (repeat (rcases List.mem_cons.1 hv with rfl | hv; exact rfl)); cases hv)) _ | exact ltB_all rfl | exact ltB_ofLb (by first | exact bare0_ints | assumption | (intro v hv; (repeat (rcases List.mem_cons.1 hv with rfl | hv; exact rfl)); cases hv)) | exact ltB_loop rfl rfl | exact ltB_mapB | assumption))))) (fun _ _ => (by (repeat' (first | exact True.intro | rfl | refine And.intro ?_ ?_ | exact (by decide) | exact (by first | exact True.intro | exact hMap _ | exact hMap2 _ | exact grB_lt (by first | exact bare0_ints | assumption | (intro v hv; (repeat (rcases List.mem_cons.1 hv with rfl | hv; exact rfl)); cases hv)) _ | exact ltB_all rfl | exact ltB_ofLb (by first | exact bare0_ints | assumption | (intro v hv; (repeat (rcases List.mem_cons.1 hv with rfl | hv; exact rfl)); cases hv)) | exact ltB_loop rfl rfl | exact ltB_mapB | assumption))))) (fun _ _ => (by (repeat' (first | exact True.intro | rfl | refine And.intro ?_ ?_)))) rfl
  rintro ⟨i, x⟩ ⟨j1, j2, j3⟩
  dsimp only at j1 j2 j3
  refine WpR.of_vc ?_
  cases hx : l[i]? with
  | some e =>
    have hlt := (List.getElem?_eq_some_iff.1 hx).1
    have he := hS.ent _ _ hx
    rw [drop_at hx] at j3
    have hO0 := termI_ok ha hb ht he (t := t)
    have kB := fun h' => carried_ok h' e.2.2 b (t - e.1) (by omega) hb (by omega)
    have kA := fun h' => carried_ok h' e.2.2 a (t - e.1) (by omega) ha (by omega)
    by_cases hte : t < e.1
    · have eT : termI t a b e = fr (e.2.2 * a.2 + a.1 * (t - e.1)) a.2 := by unfold termI; rw [if_pos hte]
      rw [eT] at hO0
      obtain ⟨TI, hTI⟩ : ∃ T, T = fr (e.2.2 * a.2 + a.1 * (t - e.1)) a.2 := ⟨_, rfl⟩
      have kT := fun h' => (kA h').1
      rw [← hTI] at hO0 eT kT
      by_cases hi0 : i = 0
      · as_aux_lemma =>
        have hO1 : OkH TI := hO0
        have hJ1 : hiQt t a b l = hiGo t a b false (hiIn t e TI (l.drop (i + 1))) (l.drop (i + 1)) := by rw [j3]; show hiGo t a b false (hiIn t e (if (decide (i = 0) || ltQ (termI t a b e) x) = true then termI t a b e else x) _) _ = _; rw [eT, decide_eq_true hi0]; rfl
        (conv => whnf); (repeat' (first | ((with_reducible refine ifb_mk (fun hc => ?_) (fun hc => ?_)) <;> ((try simp only [decide_eq_true_eq, decide_eq_false_iff_not, Bool.not_eq_true', Bool.not_eq_false', Int.not_lt, Int.not_le, ne_eq, Decidable.not_not, beq_iff_eq, List.cons.injEq, and_true] at hc); (first | (exfalso; omega) | conv => whnf))) | ((with_reducible refine And.intro True.intro ?_); conv => whnf) | ((with_reducible refine grd_getN ?_); refine som_mk (a := ?_) ?hh ?_; (case hh => exact entGetN hx); conv => whnf) | ((with_reducible refine CallX.all ?_); refine CallW.of_ok (kT _) ?_; conv => whnf) | ((with_reducible refine CallX.all ?_); refine CallW.of_ok ((kB _).1) ?_; conv => whnf) | ((with_reducible refine And.intro ?hh ?_); (case hh => (unfold InR; (try dsimp only); omega)); conv => whnf) | ((with_reducible refine And.intro ?hh ?_); (case hh => ((try dsimp only); omega)); conv => whnf) | ((with_reducible refine And.intro ?hh ?_); (case hh => ((conv => whnf); (repeat' (first | exact True.intro | rfl | refine And.intro ?_ ?_)); done)); conv => whnf) | fail))
        all_goals (first | (exfalso; omega) | skip)
        refine WpR.loopD (ι := Nat × (Int × Int)) [] [1, 2, 4, 5, 6, 7, 8, 9, 10] [5] [] 8 (fun p => [(11, .int .i64 p.1)]) (fun p => [(5, .cells (ofL [.int .i64 p.2.1, .int .i64 p.2.2] 0) true none)]) (fun p => l.length - p.1) (fun p => i < p.1 ∧ p.1 ≤ l.length ∧ OkH p.2 ∧ hiQt t a b l = hiGo t a b false (hiIn t e p.2 (l.drop p.1)) (l.drop (i + 1))) ?_ ((i + 1, TI)) (⟨by dsimp only; omega, by dsimp only; omega, hO1, hJ1⟩) [] ⟨rfl, rfl, (by (repeat' (first | exact True.intro | rfl | refine And.intro ?_ ?_))), (by (repeat' (first | exact True.intro | rfl | refine And.intro ?_ ?_))), (by (repeat' (first | exact True.intro | rfl | refine And.intro ?_ ?_))), (by (repeat' (first | exact True.intro | exact Or.inl rfl | refine And.intro ?_ ?_ | refine Or.inr ⟨_, rfl, ?_⟩ | exact SubQ.same (n := 1000) (Y := []) (fun _ _ _ => rfl) (by first | exact True.intro | exact ltB_all rfl | exact ltB_ofLb (by first | exact bare0_ints | assumption | (intro v hv; (repeat (rcases List.mem_cons.1 hv with rfl | hv; exact rfl)); cases hv)) | exact ltB_loop rfl rfl | exact hMap _ | exact hMap2 _ | exact grB_lt (by first | exact bare0_ints | assumption | (intro v hv; (repeat (rcases List.mem_cons.1 hv with rfl | hv; exact rfl)); cases hv)) _ | exact ltB_mapB | assumption) (avB_nil _) rfl | exact SubQ.ofL (by first | rfl | simp) (by first | exact bare0_ints | assumption | (intro v hv; (repeat (rcases List.mem_cons.1 hv with rfl | hv; exact rfl)); cases hv)) (by first | exact Or.inl rfl | exact Or.inr rfl) | exact SubQ.fin (by (conv => whnf); (repeat' (first | exact True.intro | rfl | refine And.intro ?_ ?_)); done) (fun h => h) (by first | exact Or.inl rfl | exact Or.inr rfl)))), rfl, rfl⟩ rfl rfl rfl (fun _ => rfl) (by (repeat' (first | exact True.intro | refine And.intro ?_ ?_ | exact avV_nil _ | rfl))) (by (repeat' (first | exact True.intro | (with_reducible exact avB_nil _) | ((with_reducible refine avB_all ?_); rfl) | ((with_reducible refine avB_ofLb ?_); exact (by first | exact bare0_ints | assumption | (intro v hv; (repeat (rcases List.mem_cons.1 hv with rfl | hv; exact rfl)); cases hv))) | ((with_reducible refine ltB_all ?_); rfl) | ((with_reducible refine ltB_ofLb ?_); exact (by first | exact bare0_ints | assumption | (intro v hv; (repeat (rcases List.mem_cons.1 hv with rfl | hv; exact rfl)); cases hv))) | ((with_reducible refine ltB_loop ?_ ?_) <;> rfl) | (with_reducible exact hMap _) | (with_reducible exact hMap2 _) | (with_reducible exact ltB_mapB) | ((with_reducible refine grB_lt ?_ _); exact (by first | exact bare0_ints | assumption | (intro v hv; (repeat (rcases List.mem_cons.1 hv with rfl | hv; exact rfl)); cases hv))) | (with_reducible assumption) | refine And.intro ?_ ?_ | exact (by first | exact True.intro | exact ltB_all rfl | exact ltB_ofLb (by first | exact bare0_ints | assumption | (intro v hv; (repeat (rcases List.mem_cons.1 hv with rfl | hv; exact rfl)); cases hv)) | exact ltB_loop rfl rfl | exact hMap _ | exact hMap2 _ | exact grB_lt (by first | exact bare0_ints | assumption | (intro v hv; (repeat (rcases List.mem_cons.1 hv with rfl | hv; exact rfl)); cases hv)) _ | exact ltB_mapB | assumption)))) (fun _ _ => (by (repeat' (first | exact True.intro | rfl | refine And.intro ?_ ?_ | exact (by decide) | exact (by first | exact True.intro | exact hMap _ | exact hMap2 _ | exact grB_lt (by first | exact bare0_ints | assumption | (intro v hv; (repeat (rcases List.mem_cons.1 hv with rfl | hv; exact rfl)); cases hv)) _ | exact ltB_all rfl | exact ltB_ofLb (by first | exact bare0_ints | assumption | (intro v hv; (repeat (rcases List.mem_cons.1 hv with rfl | hv; exact rfl)); cases hv)) | exact ltB_loop rfl rfl | exact ltB_mapB | assumption))))) (fun _ _ => (by (repeat' (first | exact True.intro | rfl | refine And.intro ?_ ?_ | exact (by decide) | exact (by first | exact True.intro | exact hMap _ | exact hMap2 _ | exact grB_lt (by first | exact bare0_ints | assumption | (intro v hv; (repeat (rcases List.mem_cons.1 hv with rfl | hv; exact rfl)); cases hv)) _ | exact ltB_all rfl | exact ltB_ofLb (by first | exact bare0_ints | assumption | (intro v hv; (repeat (rcases List.mem_cons.1 hv with rfl | hv; exact rfl)); cases hv)) | exact ltB_loop rfl rfl | exact ltB_mapB | assumption))))) (fun _ _ => (by (repeat' (first | exact True.intro | rfl | refine And.intro ?_ ?_)))) rfl
        rintro ⟨k, x⟩ ⟨k1, k2, k3, k4⟩
        dsimp only at k1 k2 k3 k4
        refine WpR.of_vc ?_
        cases hy : l[k]? with
        | some f =>
          rw [drop_at hy] at k4
          have hklt := (List.getElem?_eq_some_iff.1 hy).1
          have hf := hS.ent _ _ hy
          have hef := hS.inc _ _ _ _ k1 hx hy
          by_cases hcond : t < e.1 ∨ f.1 < t
          · have e3 : hiIn t e x (f :: l.drop (k + 1)) = hiIn t e x (l.drop (k + 1)) := by show hiIn t e (inH t e x f) _ = _; unfold inH; rw [if_pos hcond]
            rw [e3] at k4
            (conv => whnf); (repeat' (first | ((with_reducible refine ifb_mk (fun hc => ?_) (fun hc => ?_)) <;> ((try simp only [decide_eq_true_eq, decide_eq_false_iff_not, Bool.not_eq_true', Bool.not_eq_false', Int.not_lt, Int.not_le, ne_eq, Decidable.not_not, beq_iff_eq, List.cons.injEq, and_true] at hc); (first | (exfalso; omega) | conv => whnf))) | ((with_reducible refine And.intro True.intro ?_); conv => whnf) | ((with_reducible refine grd_getN ?_); refine som_mk (a := ?_) ?hh ?_; (case hh => exact entGetN hy); conv => whnf) | ((with_reducible refine And.intro ?hh ?_); (case hh => (unfold InR; (try dsimp only); omega)); conv => whnf) | ((with_reducible refine And.intro ?hh ?_); (case hh => ((try dsimp only); omega)); conv => whnf) | ((with_reducible refine And.intro ?hh ?_); (case hh => ((conv => whnf); (repeat' (first | exact True.intro | rfl | refine And.intro ?_ ?_)); done)); conv => whnf) | fail))
            all_goals (first | (exfalso; omega) | exact ⟨(k + 1, x), [], by dsimp only; omega, ⟨by dsimp only; omega, by dsimp only; omega, k3, k4⟩, ⟨rfl, rfl, (by (repeat' (first | exact True.intro | rfl | refine And.intro ?_ ?_))), (by (repeat' (first | exact True.intro | rfl | refine And.intro ?_ ?_))), (by (repeat' (first | exact True.intro | rfl | refine And.intro ?_ ?_))), (by (repeat' (first | exact True.intro | exact Or.inl rfl | refine And.intro ?_ ?_ | refine Or.inr ⟨_, rfl, ?_⟩ | exact SubQ.same (n := 1000) (Y := []) (fun _ _ _ => rfl) (by first | exact True.intro | exact ltB_all rfl | exact ltB_ofLb (by first | exact bare0_ints | assumption | (intro v hv; (repeat (rcases List.mem_cons.1 hv with rfl | hv; exact rfl)); cases hv)) | exact ltB_loop rfl rfl | exact hMap _ | exact hMap2 _ | exact grB_lt (by first | exact bare0_ints | assumption | (intro v hv; (repeat (rcases List.mem_cons.1 hv with rfl | hv; exact rfl)); cases hv)) _ | exact ltB_mapB | assumption) (avB_nil _) rfl | exact SubQ.ofL (by first | rfl | simp) (by first | exact bare0_ints | assumption | (intro v hv; (repeat (rcases List.mem_cons.1 hv with rfl | hv; exact rfl)); cases hv)) (by first | exact Or.inl rfl | exact Or.inr rfl) | exact SubQ.fin (by (conv => whnf); (repeat' (first | exact True.intro | rfl | refine And.intro ?_ ?_)); done) (fun h => h) (by first | exact Or.inl rfl | exact Or.inr rfl)))), rfl, rfl⟩⟩)
          · have hto := termP_ok ht he hf hef (by omega) (by omega)
            obtain ⟨q1, q2, q3⟩ := hto
            have kF := fun h' => refFraction_ok h' (e.2.2 * (f.1 - t) + f.2.2 * (t - e.1)) (f.1 - e.1) (by unfold InQ; omega) (by omega)
            have kL := fun h' => refLess_ok h' (termP t e f).1 (termP t e f).2 x.1 x.2 (InR_mul6 q3.n k3.d) (InR_mul6 k3.n q3.d)
            have e3 : hiIn t e x (f :: l.drop (k + 1)) = hiIn t e (if ltQ (termP t e f) x = true then termP t e f else x) (l.drop (k + 1)) := by show hiIn t e (inH t e x f) _ = _; unfold inH; rw [if_neg hcond]
            rw [e3] at k4
            change ∀ h', CallOk Try.prog 53 _ h' (qV (termP t e f)) h' at kF
            change ∀ h', CallOk Try.prog 46 _ h' (.bool (ltQ (termP t e f) x)) h' at kL
            generalize termP t e f = T at *
            cases hlt : ltQ T x with
            | true =>
              rw [hlt] at kL k4
              (conv => whnf); (repeat' (first | ((with_reducible refine ifb_mk (fun hc => ?_) (fun hc => ?_)) <;> ((try simp only [decide_eq_true_eq, decide_eq_false_iff_not, Bool.not_eq_true', Bool.not_eq_false', Int.not_lt, Int.not_le, ne_eq, Decidable.not_not, beq_iff_eq, List.cons.injEq, and_true] at hc); (first | (exfalso; omega) | conv => whnf))) | ((with_reducible refine And.intro True.intro ?_); conv => whnf) | ((with_reducible refine grd_getN ?_); refine som_mk (a := ?_) ?hh ?_; (case hh => exact entGetN hy); conv => whnf) | ((with_reducible refine CallX.all ?_); refine CallW.of_ok (kF _) ?_; conv => whnf) | ((with_reducible refine CallX.all ?_); refine CallW.of_ok (kL _) ?_; conv => whnf) | ((with_reducible refine And.intro ?hh ?_); (case hh => (unfold InR; (try dsimp only); omega)); conv => whnf) | ((with_reducible refine And.intro ?hh ?_); (case hh => ((try dsimp only); omega)); conv => whnf) | ((with_reducible refine And.intro ?hh ?_); (case hh => ((conv => whnf); (repeat' (first | exact True.intro | rfl | refine And.intro ?_ ?_)); done)); conv => whnf) | fail))
              all_goals (first | (exfalso; omega) | exact ⟨(k + 1, T), [], by dsimp only; omega, ⟨by dsimp only; omega, by dsimp only; omega, q3, k4⟩, ⟨rfl, rfl, (by (repeat' (first | exact True.intro | rfl | refine And.intro ?_ ?_))), (by (repeat' (first | exact True.intro | rfl | refine And.intro ?_ ?_))), (by (repeat' (first | exact True.intro | rfl | refine And.intro ?_ ?_))), (by (repeat' (first | exact True.intro | exact Or.inl rfl | refine And.intro ?_ ?_ | refine Or.inr ⟨_, rfl, ?_⟩ | exact SubQ.same (n := 1000) (Y := []) (fun _ _ _ => rfl) (by first | exact True.intro | exact ltB_all rfl | exact ltB_ofLb (by first | exact bare0_ints | assumption | (intro v hv; (repeat (rcases List.mem_cons.1 hv with rfl | hv; exact rfl)); cases hv)) | exact ltB_loop rfl rfl | exact hMap _ | exact hMap2 _ | exact grB_lt (by first | exact bare0_ints | assumption | (intro v hv; (repeat (rcases List.mem_cons.1 hv with rfl | hv; exact rfl)); cases hv)) _ | exact ltB_mapB | assumption) (avB_nil _) rfl | exact SubQ.ofL (by first | rfl | simp) (by first | exact bare0_ints | assumption | (intro v hv; (repeat (rcases List.mem_cons.1 hv with rfl | hv; exact rfl)); cases hv)) (by first | exact Or.inl rfl | exact Or.inr rfl) | exact SubQ.fin (by (conv => whnf); (repeat' (first | exact True.intro | rfl | refine And.intro ?_ ?_)); done) (fun h => h) (by first | exact Or.inl rfl | exact Or.inr rfl)))), rfl, rfl⟩⟩)
            | false =>
              rw [hlt] at kL k4
              (conv => whnf); (repeat' (first | ((with_reducible refine ifb_mk (fun hc => ?_) (fun hc => ?_)) <;> ((try simp only [decide_eq_true_eq, decide_eq_false_iff_not, Bool.not_eq_true', Bool.not_eq_false', Int.not_lt, Int.not_le, ne_eq, Decidable.not_not, beq_iff_eq, List.cons.injEq, and_true] at hc); (first | (exfalso; omega) | conv => whnf))) | ((with_reducible refine And.intro True.intro ?_); conv => whnf) | ((with_reducible refine grd_getN ?_); refine som_mk (a := ?_) ?hh ?_; (case hh => exact entGetN hy); conv => whnf) | ((with_reducible refine CallX.all ?_); refine CallW.of_ok (kF _) ?_; conv => whnf) | ((with_reducible refine CallX.all ?_); refine CallW.of_ok (kL _) ?_; conv => whnf) | ((with_reducible refine And.intro ?hh ?_); (case hh => (unfold InR; (try dsimp only); omega)); conv => whnf) | ((with_reducible refine And.intro ?hh ?_); (case hh => ((try dsimp only); omega)); conv => whnf) | ((with_reducible refine And.intro ?hh ?_); (case hh => ((conv => whnf); (repeat' (first | exact True.intro | rfl | refine And.intro ?_ ?_)); done)); conv => whnf) | fail))
              all_goals (first | (exfalso; omega) | exact ⟨(k + 1, x), [], by dsimp only; omega, ⟨by dsimp only; omega, by dsimp only; omega, k3, k4⟩, ⟨rfl, rfl, (by (repeat' (first | exact True.intro | rfl | refine And.intro ?_ ?_))), (by (repeat' (first | exact True.intro | rfl | refine And.intro ?_ ?_))), (by (repeat' (first | exact True.intro | rfl | refine And.intro ?_ ?_))), (by (repeat' (first | exact True.intro | exact Or.inl rfl | refine And.intro ?_ ?_ | refine Or.inr ⟨_, rfl, ?_⟩ | exact SubQ.same (n := 1000) (Y := []) (fun _ _ _ => rfl) (by first | exact True.intro | exact ltB_all rfl | exact ltB_ofLb (by first | exact bare0_ints | assumption | (intro v hv; (repeat (rcases List.mem_cons.1 hv with rfl | hv; exact rfl)); cases hv)) | exact ltB_loop rfl rfl | exact hMap _ | exact hMap2 _ | exact grB_lt (by first | exact bare0_ints | assumption | (intro v hv; (repeat (rcases List.mem_cons.1 hv with rfl | hv; exact rfl)); cases hv)) _ | exact ltB_mapB | assumption) (avB_nil _) rfl | exact SubQ.ofL (by first | rfl | simp) (by first | exact bare0_ints | assumption | (intro v hv; (repeat (rcases List.mem_cons.1 hv with rfl | hv; exact rfl)); cases hv)) (by first | exact Or.inl rfl | exact Or.inr rfl) | exact SubQ.fin (by (conv => whnf); (repeat' (first | exact True.intro | rfl | refine And.intro ?_ ?_)); done) (fun h => h) (by first | exact Or.inl rfl | exact Or.inr rfl)))), rfl, rfl⟩⟩)
        | none =>
          have hlen : l.length ≤ k := by simpa using hy
          rw [List.drop_eq_nil_of_le hlen] at k4
          (conv => whnf); (repeat' (first | ((with_reducible refine ifb_mk (fun hc => ?_) (fun hc => ?_)) <;> ((try simp only [decide_eq_true_eq, decide_eq_false_iff_not, Bool.not_eq_true', Bool.not_eq_false', Int.not_lt, Int.not_le, ne_eq, Decidable.not_not, beq_iff_eq, List.cons.injEq, and_true] at hc); (first | (exfalso; omega) | conv => whnf))) | ((with_reducible refine And.intro True.intro ?_); conv => whnf) | ((with_reducible refine And.intro ?hh ?_); (case hh => (unfold InR; (try dsimp only); omega)); conv => whnf) | ((with_reducible refine And.intro ?hh ?_); (case hh => ((try dsimp only); omega)); conv => whnf) | ((with_reducible refine And.intro ?hh ?_); (case hh => ((conv => whnf); (repeat' (first | exact True.intro | rfl | refine And.intro ?_ ?_)); done)); conv => whnf) | fail))
          exact ⟨(i + 1, x), [], by dsimp only; omega, ⟨by dsimp only; omega, fun _ => k3, by rw [decide_eq_false (by omega : ¬ i + 1 = 0)]; exact k4⟩, ⟨rfl, rfl, (by (repeat' (first | exact True.intro | rfl | refine And.intro ?_ ?_))), (by (repeat' (first | exact True.intro | rfl | refine And.intro ?_ ?_))), (by (repeat' (first | exact True.intro | rfl | refine And.intro ?_ ?_))), (by (repeat' (first | exact True.intro | exact Or.inl rfl | refine And.intro ?_ ?_ | refine Or.inr ⟨_, rfl, ?_⟩ | exact SubQ.same (n := 1000) (Y := []) (fun _ _ _ => rfl) (by first | exact True.intro | exact ltB_all rfl | exact ltB_ofLb (by first | exact bare0_ints | assumption | (intro v hv; (repeat (rcases List.mem_cons.1 hv with rfl | hv; exact rfl)); cases hv)) | exact ltB_loop rfl rfl | exact hMap _ | exact hMap2 _ | exact grB_lt (by first | exact bare0_ints | assumption | (intro v hv; (repeat (rcases List.mem_cons.1 hv with rfl | hv; exact rfl)); cases hv)) _ | exact ltB_mapB | assumption) (avB_nil _) rfl | exact SubQ.ofL (by first | rfl | simp) (by first | exact bare0_ints | assumption | (intro v hv; (repeat (rcases List.mem_cons.1 hv with rfl | hv; exact rfl)); cases hv)) (by first | exact Or.inl rfl | exact Or.inr rfl) | exact SubQ.fin (by (conv => whnf); (repeat' (first | exact True.intro | rfl | refine And.intro ?_ ?_)); done) (fun h => h) (by first | exact Or.inl rfl | exact Or.inr rfl)))), rfl, rfl⟩⟩
      · have hOx := j2 (by omega)
        have kL := fun h' => refLess_ok h' TI.1 TI.2 x.1 x.2 (InR_mul6 hO0.n hOx.d) (InR_mul6 hOx.n hO0.d)
        change ∀ h', CallOk Try.prog 46 _ h' (.bool (ltQ TI x)) h' at kL
        cases hlq : ltQ TI x with
        | true =>
          as_aux_lemma =>
          rw [hlq] at kL
          have hO1 : OkH TI := hO0
          have hJ1 : hiQt t a b l = hiGo t a b false (hiIn t e TI (l.drop (i + 1))) (l.drop (i + 1)) := by rw [j3]; show hiGo t a b false (hiIn t e (if (decide (i = 0) || ltQ (termI t a b e) x) = true then termI t a b e else x) _) _ = _; rw [eT, hlq, Bool.or_true]; rfl
          (conv => whnf); (repeat' (first | ((with_reducible refine ifb_mk (fun hc => ?_) (fun hc => ?_)) <;> ((try simp only [decide_eq_true_eq, decide_eq_false_iff_not, Bool.not_eq_true', Bool.not_eq_false', Int.not_lt, Int.not_le, ne_eq, Decidable.not_not, beq_iff_eq, List.cons.injEq, and_true] at hc); (first | (exfalso; omega) | conv => whnf))) | ((with_reducible refine And.intro True.intro ?_); conv => whnf) | ((with_reducible refine grd_getN ?_); refine som_mk (a := ?_) ?hh ?_; (case hh => exact entGetN hx); conv => whnf) | ((with_reducible refine CallX.all ?_); refine CallW.of_ok (kT _) ?_; conv => whnf) | ((with_reducible refine CallX.all ?_); refine CallW.of_ok ((kB _).1) ?_; conv => whnf) | ((with_reducible refine CallX.all ?_); refine CallW.of_ok (kL _) ?_; conv => whnf) | ((with_reducible refine And.intro ?hh ?_); (case hh => (unfold InR; (try dsimp only); omega)); conv => whnf) | ((with_reducible refine And.intro ?hh ?_); (case hh => ((try dsimp only); omega)); conv => whnf) | ((with_reducible refine And.intro ?hh ?_); (case hh => ((conv => whnf); (repeat' (first | exact True.intro | rfl | refine And.intro ?_ ?_)); done)); conv => whnf) | fail))
          all_goals (first | (exfalso; omega) | skip)
          refine WpR.loopD (ι := Nat × (Int × Int)) [] [1, 2, 4, 5, 6, 7, 8, 9, 10] [5] [] 8 (fun p => [(11, .int .i64 p.1)]) (fun p => [(5, .cells (ofL [.int .i64 p.2.1, .int .i64 p.2.2] 0) true none)]) (fun p => l.length - p.1) (fun p => i < p.1 ∧ p.1 ≤ l.length ∧ OkH p.2 ∧ hiQt t a b l = hiGo t a b false (hiIn t e p.2 (l.drop p.1)) (l.drop (i + 1))) ?_ ((i + 1, TI)) (⟨by dsimp only; omega, by dsimp only; omega, hO1, hJ1⟩) [] ⟨rfl, rfl, (by (repeat' (first | exact True.intro | rfl | refine And.intro ?_ ?_))), (by (repeat' (first | exact True.intro | rfl | refine And.intro ?_ ?_))), (by (repeat' (first | exact True.intro | rfl | refine And.intro ?_ ?_))), (by (repeat' (first | exact True.intro | exact Or.inl rfl | refine And.intro ?_ ?_ | refine Or.inr ⟨_, rfl, ?_⟩ | exact SubQ.same (n := 1000) (Y := []) (fun _ _ _ => rfl) (by first | exact True.intro | exact ltB_all rfl | exact ltB_ofLb (by first | exact bare0_ints | assumption | (intro v hv; (repeat (rcases List.mem_cons.1 hv with rfl | hv; exact rfl)); cases hv)) | exact ltB_loop rfl rfl | exact hMap _ | exact hMap2 _ | exact grB_lt (by first | exact bare0_ints | assumption | (intro v hv; (repeat (rcases List.mem_cons.1 hv with rfl | hv; exact rfl)); cases hv)) _ | exact ltB_mapB | assumption) (avB_nil _) rfl | exact SubQ.ofL (by first | rfl | simp) (by first | exact bare0_ints | assumption | (intro v hv; (repeat (rcases List.mem_cons.1 hv with rfl | hv; exact rfl)); cases hv)) (by first | exact Or.inl rfl | exact Or.inr rfl) | exact SubQ.fin (by (conv => whnf); (repeat' (first | exact True.intro | rfl | refine And.intro ?_ ?_)); done) (fun h => h) (by first | exact Or.inl rfl | exact Or.inr rfl)))), rfl, rfl⟩ rfl rfl rfl (fun _ => rfl) (by (repeat' (first | exact True.intro | refine And.intro ?_ ?_ | exact avV_nil _ | rfl))) (by (repeat' (first | exact True.intro | (with_reducible exact avB_nil _) | ((with_reducible refine avB_all ?_); rfl) | ((with_reducible refine avB_ofLb ?_); exact (by first | exact bare0_ints | assumption | (intro v hv; (repeat (rcases List.mem_cons.1 hv with rfl | hv; exact rfl)); cases hv))) | ((with_reducible refine ltB_all ?_); rfl) | ((with_reducible refine ltB_ofLb ?_); exact (by first | exact bare0_ints | assumption | (intro v hv; (repeat (rcases List.mem_cons.1 hv with rfl | hv; exact rfl)); cases hv))) | ((with_reducible refine ltB_loop ?_ ?_) <;> rfl) | (with_reducible exact hMap _) | (with_reducible exact hMap2 _) | (with_reducible exact ltB_mapB) | ((with_reducible refine grB_lt ?_ _); exact (by first | exact bare0_ints | assumption | (intro v hv; (repeat (rcases List.mem_cons.1 hv with rfl | hv; exact rfl)); cases hv))) | (with_reducible assumption) | refine And.intro ?_ ?_ | exact (by first | exact True.intro | exact ltB_all rfl | exact ltB_ofLb (by first | exact bare0_ints | assumption | (intro v hv; (repeat (rcases List.mem_cons.1 hv with rfl | hv; exact rfl)); cases hv)) | exact ltB_loop rfl rfl | exact hMap _ | exact hMap2 _ | exact grB_lt (by first | exact bare0_ints | assumption | (intro v hv; (repeat (rcases List.mem_cons.1 hv with rfl | hv; exact rfl)); cases hv)) _ | exact ltB_mapB | assumption)))) (fun _ _ => (by (repeat' (first | exact True.intro | rfl | refine And.intro ?_ ?_ | exact (by decide) | exact (by first | exact True.intro | exact hMap _ | exact hMap2 _ | exact grB_lt (by first | exact bare0_ints | assumption | (intro v hv; (repeat (rcases List.mem_cons.1 hv with rfl | hv; exact rfl)); cases hv)) _ | exact ltB_all rfl | exact ltB_ofLb (by first | exact bare0_ints | assumption | (intro v hv; (repeat (rcases List.mem_cons.1 hv with rfl | hv; exact rfl)); cases hv)) | exact ltB_loop rfl rfl | exact ltB_mapB | assumption))))) (fun _ _ => (by (repeat' (first | exact True.intro | rfl | refine And.intro ?_ ?_ | exact (by decide) | exact (by first | exact True.intro | exact hMap _ | exact hMap2 _ | exact grB_lt (by first | exact bare0_ints | assumption | (intro v hv; (repeat (rcases List.mem_cons.1 hv with rfl | hv; exact rfl)); cases hv)) _ | exact ltB_all rfl | exact ltB_ofLb (by first | exact bare0_ints | assumption | (intro v hv; (repeat (rcases List.mem_cons.1 hv with rfl | hv; exact rfl)); cases hv)) | exact ltB_loop rfl rfl | exact ltB_mapB | assumption))))) (fun _ _ => (by (repeat' (first | exact True.intro | rfl | refine And.intro ?_ ?_)))) rfl
          rintro ⟨k, x⟩ ⟨k1, k2, k3, k4⟩
          dsimp only at k1 k2 k3 k4
          refine WpR.of_vc ?_
          cases hy : l[k]? with
          | some f =>
            rw [drop_at hy] at k4
            have hklt := (List.getElem?_eq_some_iff.1 hy).1
            have hf := hS.ent _ _ hy
            have hef := hS.inc _ _ _ _ k1 hx hy
            by_cases hcond : t < e.1 ∨ f.1 < t
            · have e3 : hiIn t e x (f :: l.drop (k + 1)) = hiIn t e x (l.drop (k + 1)) := by show hiIn t e (inH t e x f) _ = _; unfold inH; rw [if_pos hcond]
              rw [e3] at k4
              (conv => whnf); (repeat' (first | ((with_reducible refine ifb_mk (fun hc => ?_) (fun hc => ?_)) <;> ((try simp only [decide_eq_true_eq, decide_eq_false_iff_not, Bool.not_eq_true', Bool.not_eq_false', Int.not_lt, Int.not_le, ne_eq, Decidable.not_not, beq_iff_eq, List.cons.injEq, and_true] at hc); (first | (exfalso; omega) | conv => whnf))) | ((with_reducible refine And.intro True.intro ?_); conv => whnf) | ((with_reducible refine grd_getN ?_); refine som_mk (a := ?_) ?hh ?_; (case hh => exact entGetN hy); conv => whnf) | ((with_reducible refine And.intro ?hh ?_); (case hh => (unfold InR; (try dsimp only); omega)); conv => whnf) | ((with_reducible refine And.intro ?hh ?_); (case hh => ((try dsimp only); omega)); conv => whnf) | ((with_reducible refine And.intro ?hh ?_); (case hh => ((conv => whnf); (repeat' (first | exact True.intro | rfl | refine And.intro ?_ ?_)); done)); conv => whnf) | fail))
              all_goals (first | (exfalso; omega) | exact ⟨(k + 1, x), [], by dsimp only; omega, ⟨by dsimp only; omega, by dsimp only; omega, k3, k4⟩, ⟨rfl, rfl, (by (repeat' (first | exact True.intro | rfl | refine And.intro ?_ ?_))), (by (repeat' (first | exact True.intro | rfl | refine And.intro ?_ ?_))), (by (repeat' (first | exact True.intro | rfl | refine And.intro ?_ ?_))), (by (repeat' (first | exact True.intro | exact Or.inl rfl | refine And.intro ?_ ?_ | refine Or.inr ⟨_, rfl, ?_⟩ | exact SubQ.same (n := 1000) (Y := []) (fun _ _ _ => rfl) (by first | exact True.intro | exact ltB_all rfl | exact ltB_ofLb (by first | exact bare0_ints | assumption | (intro v hv; (repeat (rcases List.mem_cons.1 hv with rfl | hv; exact rfl)); cases hv)) | exact ltB_loop rfl rfl | exact hMap _ | exact hMap2 _ | exact grB_lt (by first | exact bare0_ints | assumption | (intro v hv; (repeat (rcases List.mem_cons.1 hv with rfl | hv; exact rfl)); cases hv)) _ | exact ltB_mapB | assumption) (avB_nil _) rfl | exact SubQ.ofL (by first | rfl | simp) (by first | exact bare0_ints | assumption | (intro v hv; (repeat (rcases List.mem_cons.1 hv with rfl | hv; exact rfl)); cases hv)) (by first | exact Or.inl rfl | exact Or.inr rfl) | exact SubQ.fin (by (conv => whnf); (repeat' (first | exact True.intro | rfl | refine And.intro ?_ ?_)); done) (fun h => h) (by first | exact Or.inl rfl | exact Or.inr rfl)))), rfl, rfl⟩⟩)
            · have hto := termP_ok ht he hf hef (by omega) (by omega)
              obtain ⟨q1, q2, q3⟩ := hto
              have kF := fun h' => refFraction_ok h' (e.2.2 * (f.1 - t) + f.2.2 * (t - e.1)) (f.1 - e.1) (by unfold InQ; omega) (by omega)
              have kL := fun h' => refLess_ok h' (termP t e f).1 (termP t e f).2 x.1 x.2 (InR_mul6 q3.n k3.d) (InR_mul6 k3.n q3.d)
              have e3 : hiIn t e x (f :: l.drop (k + 1)) = hiIn t e (if ltQ (termP t e f) x = true then termP t e f else x) (l.drop (k + 1)) := by show hiIn t e (inH t e x f) _ = _; unfold inH; rw [if_neg hcond]
              rw [e3] at k4
              change ∀ h', CallOk Try.prog 53 _ h' (qV (termP t e f)) h' at kF
              change ∀ h', CallOk Try.prog 46 _ h' (.bool (ltQ (termP t e f) x)) h' at kL
              generalize termP t e f = T at *
              cases hlt : ltQ T x with
              | true =>
                rw [hlt] at kL k4
                (conv => whnf); (repeat' (first | ((with_reducible refine ifb_mk (fun hc => ?_) (fun hc => ?_)) <;> ((try simp only [decide_eq_true_eq, decide_eq_false_iff_not, Bool.not_eq_true', Bool.not_eq_false', Int.not_lt, Int.not_le, ne_eq, Decidable.not_not, beq_iff_eq, List.cons.injEq, and_true] at hc); (first | (exfalso; omega) | conv => whnf))) | ((with_reducible refine And.intro True.intro ?_); conv => whnf) | ((with_reducible refine grd_getN ?_); refine som_mk (a := ?_) ?hh ?_; (case hh => exact entGetN hy); conv => whnf) | ((with_reducible refine CallX.all ?_); refine CallW.of_ok (kF _) ?_; conv => whnf) | ((with_reducible refine CallX.all ?_); refine CallW.of_ok (kL _) ?_; conv => whnf) | ((with_reducible refine And.intro ?hh ?_); (case hh => (unfold InR; (try dsimp only); omega)); conv => whnf) | ((with_reducible refine And.intro ?hh ?_); (case hh => ((try dsimp only); omega)); conv => whnf) | ((with_reducible refine And.intro ?hh ?_); (case hh => ((conv => whnf); (repeat' (first | exact True.intro | rfl | refine And.intro ?_ ?_)); done)); conv => whnf) | fail))
                all_goals (first | (exfalso; omega) | exact ⟨(k + 1, T), [], by dsimp only; omega, ⟨by dsimp only; omega, by dsimp only; omega, q3, k4⟩, ⟨rfl, rfl, (by (repeat' (first | exact True.intro | rfl | refine And.intro ?_ ?_))), (by (repeat' (first | exact True.intro | rfl | refine And.intro ?_ ?_))), (by (repeat' (first | exact True.intro | rfl | refine And.intro ?_ ?_))), (by (repeat' (first | exact True.intro | exact Or.inl rfl | refine And.intro ?_ ?_ | refine Or.inr ⟨_, rfl, ?_⟩ | exact SubQ.same (n := 1000) (Y := []) (fun _ _ _ => rfl) (by first | exact True.intro | exact ltB_all rfl | exact ltB_ofLb (by first | exact bare0_ints | assumption | (intro v hv; (repeat (rcases List.mem_cons.1 hv with rfl | hv; exact rfl)); cases hv)) | exact ltB_loop rfl rfl | exact hMap _ | exact hMap2 _ | exact grB_lt (by first | exact bare0_ints | assumption | (intro v hv; (repeat (rcases List.mem_cons.1 hv with rfl | hv; exact rfl)); cases hv)) _ | exact ltB_mapB | assumption) (avB_nil _) rfl | exact SubQ.ofL (by first | rfl | simp) (by first | exact bare0_ints | assumption | (intro v hv; (repeat (rcases List.mem_cons.1 hv with rfl | hv; exact rfl)); cases hv)) (by first | exact Or.inl rfl | exact Or.inr rfl) | exact SubQ.fin (by (conv => whnf); (repeat' (first | exact True.intro | rfl | refine And.intro ?_ ?_)); done) (fun h => h) (by first | exact Or.inl rfl | exact Or.inr rfl)))), rfl, rfl⟩⟩)
              | false =>
                rw [hlt] at kL k4
                (conv => whnf); (repeat' (first | ((with_reducible refine ifb_mk (fun hc => ?_) (fun hc => ?_)) <;> ((try simp only [decide_eq_true_eq, decide_eq_false_iff_not, Bool.not_eq_true', Bool.not_eq_false', Int.not_lt, Int.not_le, ne_eq, Decidable.not_not, beq_iff_eq, List.cons.injEq, and_true] at hc); (first | (exfalso; omega) | conv => whnf))) | ((with_reducible refine And.intro True.intro ?_); conv => whnf) | ((with_reducible refine grd_getN ?_); refine som_mk (a := ?_) ?hh ?_; (case hh => exact entGetN hy); conv => whnf) | ((with_reducible refine CallX.all ?_); refine CallW.of_ok (kF _) ?_; conv => whnf) | ((with_reducible refine CallX.all ?_); refine CallW.of_ok (kL _) ?_; conv => whnf) | ((with_reducible refine And.intro ?hh ?_); (case hh => (unfold InR; (try dsimp only); omega)); conv => whnf) | ((with_reducible refine And.intro ?hh ?_); (case hh => ((try dsimp only); omega)); conv => whnf) | ((with_reducible refine And.intro ?hh ?_); (case hh => ((conv => whnf); (repeat' (first | exact True.intro | rfl | refine And.intro ?_ ?_)); done)); conv => whnf) | fail))
                all_goals (first | (exfalso; omega) | exact ⟨(k + 1, x), [], by dsimp only; omega, ⟨by dsimp only; omega, by dsimp only; omega, k3, k4⟩, ⟨rfl, rfl, (by (repeat' (first | exact True.intro | rfl | refine And.intro ?_ ?_))), (by (repeat' (first | exact True.intro | rfl | refine And.intro ?_ ?_))), (by (repeat' (first | exact True.intro | rfl | refine And.intro ?_ ?_))), (by (repeat' (first | exact True.intro | exact Or.inl rfl | refine And.intro ?_ ?_ | refine Or.inr ⟨_, rfl, ?_⟩ | exact SubQ.same (n := 1000) (Y := []) (fun _ _ _ => rfl) (by first | exact True.intro | exact ltB_all rfl | exact ltB_ofLb (by first | exact bare0_ints | assumption | (intro v hv; (repeat (rcases List.mem_cons.1 hv with rfl | hv; exact rfl)); cases hv)) | exact ltB_loop rfl rfl | exact hMap _ | exact hMap2 _ | exact grB_lt (by first | exact bare0_ints | assumption | (intro v hv; (repeat (rcases List.mem_cons.1 hv with rfl | hv; exact rfl)); cases hv)) _ | exact ltB_mapB | assumption) (avB_nil _) rfl | exact SubQ.ofL (by first | rfl | simp) (by first | exact bare0_ints | assumption | (intro v hv; (repeat (rcases List.mem_cons.1 hv with rfl | hv; exact rfl)); cases hv)) (by first | exact Or.inl rfl | exact Or.inr rfl) | exact SubQ.fin (by (conv => whnf); (repeat' (first | exact True.intro | rfl | refine And.intro ?_ ?_)); done) (fun h => h) (by first | exact Or.inl rfl | exact Or.inr rfl)))), rfl, rfl⟩⟩)
          | none =>
            have hlen : l.length ≤ k := by simpa using hy
            rw [List.drop_eq_nil_of_le hlen] at k4
            (conv => whnf); (repeat' (first | ((with_reducible refine ifb_mk (fun hc => ?_) (fun hc => ?_)) <;> ((try simp only [decide_eq_true_eq, decide_eq_false_iff_not, Bool.not_eq_true', Bool.not_eq_false', Int.not_lt, Int.not_le, ne_eq, Decidable.not_not, beq_iff_eq, List.cons.injEq, and_true] at hc); (first | (exfalso; omega) | conv => whnf))) | ((with_reducible refine And.intro True.intro ?_); conv => whnf) | ((with_reducible refine And.intro ?hh ?_); (case hh => (unfold InR; (try dsimp only); omega)); conv => whnf) | ((with_reducible refine And.intro ?hh ?_); (case hh => ((try dsimp only); omega)); conv => whnf) | ((with_reducible refine And.intro ?hh ?_); (case hh => ((conv => whnf); (repeat' (first | exact True.intro | rfl | refine And.intro ?_ ?_)); done)); conv => whnf) | fail))
            exact ⟨(i + 1, x), [], by dsimp only; omega, ⟨by dsimp only; omega, fun _ => k3, by rw [decide_eq_false (by omega : ¬ i + 1 = 0)]; exact k4⟩, ⟨rfl, rfl, (by (repeat' (first | exact True.intro | rfl | refine And.intro ?_ ?_))), (by (repeat' (first | exact True.intro | rfl | refine And.intro ?_ ?_))), (by (repeat' (first | exact True.intro | rfl | refine And.intro ?_ ?_))), (by (repeat' (first | exact True.intro | exact Or.inl rfl | refine And.intro ?_ ?_ | refine Or.inr ⟨_, rfl, ?_⟩ | exact SubQ.same (n := 1000) (Y := []) (fun _ _ _ => rfl) (by first | exact True.intro | exact ltB_all rfl | exact ltB_ofLb (by first | exact bare0_ints | assumption | (intro v hv; (repeat (rcases List.mem_cons.1 hv with rfl | hv; exact rfl)); cases hv)) | exact ltB_loop rfl rfl | exact hMap _ | exact hMap2 _ | exact grB_lt (by first | exact bare0_ints | assumption | (intro v hv; (repeat (rcases List.mem_cons.1 hv with rfl | hv; exact rfl)); cases hv)) _ | exact ltB_mapB | assumption) (avB_nil _) rfl | exact SubQ.ofL (by first | rfl | simp) (by first | exact bare0_ints | assumption | (intro v hv; (repeat (rcases List.mem_cons.1 hv with rfl | hv; exact rfl)); cases hv)) (by first | exact Or.inl rfl | exact Or.inr rfl) | exact SubQ.fin (by (conv => whnf); (repeat' (first | exact True.intro | rfl | refine And.intro ?_ ?_)); done) (fun h => h) (by first | exact Or.inl rfl | exact Or.inr rfl)))), rfl, rfl⟩⟩
        | false =>
          as_aux_lemma =>
          rw [hlq] at kL
          have hO1 : OkH x := hOx
          have hJ1 : hiQt t a b l = hiGo t a b false (hiIn t e x (l.drop (i + 1))) (l.drop (i + 1)) := by rw [j3]; show hiGo t a b false (hiIn t e (if (decide (i = 0) || ltQ (termI t a b e) x) = true then termI t a b e else x) _) _ = _; rw [eT, hlq, decide_eq_false hi0]; rfl
          (conv => whnf); (repeat' (first | ((with_reducible refine ifb_mk (fun hc => ?_) (fun hc => ?_)) <;> ((try simp only [decide_eq_true_eq, decide_eq_false_iff_not, Bool.not_eq_true', Bool.not_eq_false', Int.not_lt, Int.not_le, ne_eq, Decidable.not_not, beq_iff_eq, List.cons.injEq, and_true] at hc); (first | (exfalso; omega) | conv => whnf))) | ((with_reducible refine And.intro True.intro ?_); conv => whnf) | ((with_reducible refine grd_getN ?_); refine som_mk (a := ?_) ?hh ?_; (case hh => exact entGetN hx); conv => whnf) | ((with_reducible refine CallX.all ?_); refine CallW.of_ok (kT _) ?_; conv => whnf) | ((with_reducible refine CallX.all ?_); refine CallW.of_ok ((kB _).1) ?_; conv => whnf) | ((with_reducible refine CallX.all ?_); refine CallW.of_ok (kL _) ?_; conv => whnf) | ((with_reducible refine And.intro ?hh ?_); (case hh => (unfold InR; (try dsimp only); omega)); conv => whnf) | ((with_reducible refine And.intro ?hh ?_); (case hh => ((try dsimp only); omega)); conv => whnf) | ((with_reducible refine And.intro ?hh ?_); (case hh => ((conv => whnf); (repeat' (first | exact True.intro | rfl | refine And.intro ?_ ?_)); done)); conv => whnf) | fail))
          all_goals (first | (exfalso; omega) | skip)
          refine WpR.loopD (ι := Nat × (Int × Int)) [] [1, 2, 4, 5, 6, 7, 8, 9, 10] [5] [] 8 (fun p => [(11, .int .i64 p.1)]) (fun p => [(5, .cells (ofL [.int .i64 p.2.1, .int .i64 p.2.2] 0) true none)]) (fun p => l.length - p.1) (fun p => i < p.1 ∧ p.1 ≤ l.length ∧ OkH p.2 ∧ hiQt t a b l = hiGo t a b false (hiIn t e p.2 (l.drop p.1)) (l.drop (i + 1))) ?_ ((i + 1, x)) (⟨by dsimp only; omega, by dsimp only; omega, hO1, hJ1⟩) [] ⟨rfl, rfl, (by (repeat' (first | exact True.intro | rfl | refine And.intro ?_ ?_))), (by (repeat' (first | exact True.intro | rfl | refine And.intro ?_ ?_))), (by (repeat' (first | exact True.intro | rfl | refine And.intro ?_ ?_))), (by (repeat' (first | exact True.intro | exact Or.inl rfl | refine And.intro ?_ ?_ | refine Or.inr ⟨_, rfl, ?_⟩ | exact SubQ.same (n := 1000) (Y := []) (fun _ _ _ => rfl) (by first | exact True.intro | exact ltB_all rfl | exact ltB_ofLb (by first | exact bare0_ints | assumption | (intro v hv; (repeat (rcases List.mem_cons.1 hv with rfl | hv; exact rfl)); cases hv)) | exact ltB_loop rfl rfl | exact hMap _ | exact hMap2 _ | exact grB_lt (by first | exact bare0_ints | assumption | (intro v hv; (repeat (rcases List.mem_cons.1 hv with rfl | hv; exact rfl)); cases hv)) _ | exact ltB_mapB | assumption) (avB_nil _) rfl | exact SubQ.ofL (by first | rfl | simp) (by first | exact bare0_ints | assumption | (intro v hv; (repeat (rcases List.mem_cons.1 hv with rfl | hv; exact rfl)); cases hv)) (by first | exact Or.inl rfl | exact Or.inr rfl) | exact SubQ.fin (by (conv => whnf); (repeat' (first | exact True.intro | rfl | refine And.intro ?_ ?_)); done) (fun h => h) (by first | exact Or.inl rfl | exact Or.inr rfl)))), rfl, rfl⟩ rfl rfl rfl (fun _ => rfl) (by (repeat' (first | exact True.intro | refine And.intro ?_ ?_ | exact avV_nil _ | rfl))) (by (repeat' (first | exact True.intro | (with_reducible exact avB_nil _) | ((with_reducible refine avB_all ?_); rfl) | ((with_reducible refine avB_ofLb ?_); exact (by first | exact bare0_ints | assumption | (intro v hv; (repeat (rcases List.mem_cons.1 hv with rfl | hv; exact rfl)); cases hv))) | ((with_reducible refine ltB_all ?_); rfl) | ((with_reducible refine ltB_ofLb ?_); exact (by first | exact bare0_ints | assumption | (intro v hv; (repeat (rcases List.mem_cons.1 hv with rfl | hv; exact rfl)); cases hv))) | ((with_reducible refine ltB_loop ?_ ?_) <;> rfl) | (with_reducible exact hMap _) | (with_reducible exact hMap2 _) | (with_reducible exact ltB_mapB) | ((with_reducible refine grB_lt ?_ _); exact (by first | exact bare0_ints | assumption | (intro v hv; (repeat (rcases List.mem_cons.1 hv with rfl | hv; exact rfl)); cases hv))) | (with_reducible assumption) | refine And.intro ?_ ?_ | exact (by first | exact True.intro | exact ltB_all rfl | exact ltB_ofLb (by first | exact bare0_ints | assumption | (intro v hv; (repeat (rcases List.mem_cons.1 hv with rfl | hv; exact rfl)); cases hv)) | exact ltB_loop rfl rfl | exact hMap _ | exact hMap2 _ | exact grB_lt (by first | exact bare0_ints | assumption | (intro v hv; (repeat (rcases List.mem_cons.1 hv with rfl | hv; exact rfl)); cases hv)) _ | exact ltB_mapB | assumption)))) (fun _ _ => (by (repeat' (first | exact True.intro | rfl | refine And.intro ?_ ?_ | exact (by decide) | exact (by first | exact True.intro | exact hMap _ | exact hMap2 _ | exact grB_lt (by first | exact bare0_ints | assumption | (intro v hv; (repeat (rcases List.mem_cons.1 hv with rfl | hv; exact rfl)); cases hv)) _ | exact ltB_all rfl | exact ltB_ofLb (by first | exact bare0_ints | assumption | (intro v hv; (repeat (rcases List.mem_cons.1 hv with rfl | hv; exact rfl)); cases hv)) | exact ltB_loop rfl rfl | exact ltB_mapB | assumption))))) (fun _ _ => (by (repeat' (first | exact True.intro | rfl | refine And.intro ?_ ?_ | exact (by decide) | exact (by first | exact True.intro | exact hMap _ | exact hMap2 _ | exact grB_lt (by first | exact bare0_ints | assumption | (intro v hv; (repeat (rcases List.mem_cons.1 hv with rfl | hv; exact rfl)); cases hv)) _ | exact ltB_all rfl | exact ltB_ofLb (by first | exact bare0_ints | assumption | (intro v hv; (repeat (rcases List.mem_cons.1 hv with rfl | hv; exact rfl)); cases hv)) | exact ltB_loop rfl rfl | exact ltB_mapB | assumption))))) (fun _ _ => (by (repeat' (first | exact True.intro | rfl | refine And.intro ?_ ?_)))) rfl
          rintro ⟨k, x⟩ ⟨k1, k2, k3, k4⟩
          dsimp only at k1 k2 k3 k4
          refine WpR.of_vc ?_
          cases hy : l[k]? with
          | some f =>
            rw [drop_at hy] at k4
            have hklt := (List.getElem?_eq_some_iff.1 hy).1
            have hf := hS.ent _ _ hy
            have hef := hS.inc _ _ _ _ k1 hx hy
            by_cases hcond : t < e.1 ∨ f.1 < t
            · have e3 : hiIn t e x (f :: l.drop (k + 1)) = hiIn t e x (l.drop (k + 1)) := by show hiIn t e (inH t e x f) _ = _; unfold inH; rw [if_pos hcond]
              rw [e3] at k4
              (conv => whnf); (repeat' (first | ((with_reducible refine ifb_mk (fun hc => ?_) (fun hc => ?_)) <;> ((try simp only [decide_eq_true_eq, decide_eq_false_iff_not, Bool.not_eq_true', Bool.not_eq_false', Int.not_lt, Int.not_le, ne_eq, Decidable.not_not, beq_iff_eq, List.cons.injEq, and_true] at hc); (first | (exfalso; omega) | conv => whnf))) | ((with_reducible refine And.intro True.intro ?_); conv => whnf) | ((with_reducible refine grd_getN ?_); refine som_mk (a := ?_) ?hh ?_; (case hh => exact entGetN hy); conv => whnf) | ((with_reducible refine And.intro ?hh ?_); (case hh => (unfold InR; (try dsimp only); omega)); conv => whnf) | ((with_reducible refine And.intro ?hh ?_); (case hh => ((try dsimp only); omega)); conv => whnf) | ((with_reducible refine And.intro ?hh ?_); (case hh => ((conv => whnf); (repeat' (first | exact True.intro | rfl | refine And.intro ?_ ?_)); done)); conv => whnf) | fail))
              all_goals (first | (exfalso; omega) | exact ⟨(k + 1, x), [], by dsimp only; omega, ⟨by dsimp only; omega, by dsimp only; omega, k3, k4⟩, ⟨rfl, rfl, (by (repeat' (first | exact True.intro | rfl | refine And.intro ?_ ?_))), (by (repeat' (first | exact True.intro | rfl | refine And.intro ?_ ?_))), (by (repeat' (first | exact True.intro | rfl | refine And.intro ?_ ?_))), (by (repeat' (first | exact True.intro | exact Or.inl rfl | refine And.intro ?_ ?_ | refine Or.inr ⟨_, rfl, ?_⟩ | exact SubQ.same (n := 1000) (Y := []) (fun _ _ _ => rfl) (by first | exact True.intro | exact ltB_all rfl | exact ltB_ofLb (by first | exact bare0_ints | assumption | (intro v hv; (repeat (rcases List.mem_cons.1 hv with rfl | hv; exact rfl)); cases hv)) | exact ltB_loop rfl rfl | exact hMap _ | exact hMap2 _ | exact grB_lt (by first | exact bare0_ints | assumption | (intro v hv; (repeat (rcases List.mem_cons.1 hv with rfl | hv; exact rfl)); cases hv)) _ | exact ltB_mapB | assumption) (avB_nil _) rfl | exact SubQ.ofL (by first | rfl | simp) (by first | exact bare0_ints | assumption | (intro v hv; (repeat (rcases List.mem_cons.1 hv with rfl | hv; exact rfl)); cases hv)) (by first | exact Or.inl rfl | exact Or.inr rfl) | exact SubQ.fin (by (conv => whnf); (repeat' (first | exact True.intro | rfl | refine And.intro ?_ ?_)); done) (fun h => h) (by first | exact Or.inl rfl | exact Or.inr rfl)))), rfl, rfl⟩⟩)
            · have hto := termP_ok ht he hf hef (by omega) (by omega)
              obtain ⟨q1, q2, q3⟩ := hto
              have kF := fun h' => refFraction_ok h' (e.2.2 * (f.1 - t) + f.2.2 * (t - e.1)) (f.1 - e.1) (by unfold InQ; omega) (by omega)
              have kL := fun h' => refLess_ok h' (termP t e f).1 (termP t e f).2 x.1 x.2 (InR_mul6 q3.n k3.d) (InR_mul6 k3.n q3.d)
              have e3 : hiIn t e x (f :: l.drop (k + 1)) = hiIn t e (if ltQ (termP t e f) x = true then termP t e f else x) (l.drop (k + 1)) := by show hiIn t e (inH t e x f) _ = _; unfold inH; rw [if_neg hcond]
              rw [e3] at k4
              change ∀ h', CallOk Try.prog 53 _ h' (qV (termP t e f)) h' at kF
              change ∀ h', CallOk Try.prog 46 _ h' (.bool (ltQ (termP t e f) x)) h' at kL
              generalize termP t e f = T at *
              cases hlt : ltQ T x with
              | true =>
                rw [hlt] at kL k4
                (conv => whnf); (repeat' (first | ((with_reducible refine ifb_mk (fun hc => ?_) (fun hc => ?_)) <;> ((try simp only [decide_eq_true_eq, decide_eq_false_iff_not, Bool.not_eq_true', Bool.not_eq_false', Int.not_lt, Int.not_le, ne_eq, Decidable.not_not, beq_iff_eq, List.cons.injEq, and_true] at hc); (first | (exfalso; omega) | conv => whnf))) | ((with_reducible refine And.intro True.intro ?_); conv => whnf) | ((with_reducible refine grd_getN ?_); refine som_mk (a := ?_) ?hh ?_; (case hh => exact entGetN hy); conv => whnf) | ((with_reducible refine CallX.all ?_); refine CallW.of_ok (kF _) ?_; conv => whnf) | ((with_reducible refine CallX.all ?_); refine CallW.of_ok (kL _) ?_; conv => whnf) | ((with_reducible refine And.intro ?hh ?_); (case hh => (unfold InR; (try dsimp only); omega)); conv => whnf) | ((with_reducible refine And.intro ?hh ?_); (case hh => ((try dsimp only); omega)); conv => whnf) | ((with_reducible refine And.intro ?hh ?_); (case hh => ((conv => whnf); (repeat' (first | exact True.intro | rfl | refine And.intro ?_ ?_)); done)); conv => whnf) | fail))
                all_goals (first | (exfalso; omega) | exact ⟨(k + 1, T), [], by dsimp only; omega, ⟨by dsimp only; omega, by dsimp only; omega, q3, k4⟩, ⟨rfl, rfl, (by (repeat' (first | exact True.intro | rfl | refine And.intro ?_ ?_))), (by (repeat' (first | exact True.intro | rfl | refine And.intro ?_ ?_))), (by (repeat' (first | exact True.intro | rfl | refine And.intro ?_ ?_))), (by (repeat' (first | exact True.intro | exact Or.inl rfl | refine And.intro ?_ ?_ | refine Or.inr ⟨_, rfl, ?_⟩ | exact SubQ.same (n := 1000) (Y := []) (fun _ _ _ => rfl) (by first | exact True.intro | exact ltB_all rfl | exact ltB_ofLb (by first | exact bare0_ints | assumption | (intro v hv; (repeat (rcases List.mem_cons.1 hv with rfl | hv; exact rfl)); cases hv)) | exact ltB_loop rfl rfl | exact hMap _ | exact hMap2 _ | exact grB_lt (by first | exact bare0_ints | assumption | (intro v hv; (repeat (rcases List.mem_cons.1 hv with rfl | hv; exact rfl)); cases hv)) _ | exact ltB_mapB | assumption) (avB_nil _) rfl | exact SubQ.ofL (by first | rfl | simp) (by first | exact bare0_ints | assumption | (intro v hv; (repeat (rcases List.mem_cons.1 hv with rfl | hv; exact rfl)); cases hv)) (by first | exact Or.inl rfl | exact Or.inr rfl) | exact SubQ.fin (by (conv => whnf); (repeat' (first | exact True.intro | rfl | refine And.intro ?_ ?_)); done) (fun h => h) (by first | exact Or.inl rfl | exact Or.inr rfl)))), rfl, rfl⟩⟩)
              | false =>
                rw [hlt] at kL k4
                (conv => whnf); (repeat' (first | ((with_reducible refine ifb_mk (fun hc => ?_) (fun hc => ?_)) <;> ((try simp only [decide_eq_true_eq, decide_eq_false_iff_not, Bool.not_eq_true', Bool.not_eq_false', Int.not_lt, Int.not_le, ne_eq, Decidable.not_not, beq_iff_eq, List.cons.injEq, and_true] at hc); (first | (exfalso; omega) | conv => whnf))) | ((with_reducible refine And.intro True.intro ?_); conv => whnf) | ((with_reducible refine grd_getN ?_); refine som_mk (a := ?_) ?hh ?_; (case hh => exact entGetN hy); conv => whnf) | ((with_reducible refine CallX.all ?_); refine CallW.of_ok (kF _) ?_; conv => whnf) | ((with_reducible refine CallX.all ?_); refine CallW.of_ok (kL _) ?_; conv => whnf) | ((with_reducible refine And.intro ?hh ?_); (case hh => (unfold InR; (try dsimp only); omega)); conv => whnf) | ((with_reducible refine And.intro ?hh ?_); (case hh => ((try dsimp only); omega)); conv => whnf) | ((with_reducible refine And.intro ?hh ?_); (case hh => ((conv => whnf); (repeat' (first | exact True.intro | rfl | refine And.intro ?_ ?_)); done)); conv => whnf) | fail))
                all_goals (first | (exfalso; omega) | exact ⟨(k + 1, x), [], by dsimp only; omega, ⟨by dsimp only; omega, by dsimp only; omega, k3, k4⟩, ⟨rfl, rfl, (by (repeat' (first | exact True.intro | rfl | refine And.intro ?_ ?_))), (by (repeat' (first | exact True.intro | rfl | refine And.intro ?_ ?_))), (by (repeat' (first | exact True.intro | rfl | refine And.intro ?_ ?_))), (by (repeat' (first | exact True.intro | exact Or.inl rfl | refine And.intro ?_ ?_ | refine Or.inr ⟨_, rfl, ?_⟩ | exact SubQ.same (n := 1000) (Y := []) (fun _ _ _ => rfl) (by first | exact True.intro | exact ltB_all rfl | exact ltB_ofLb (by first | exact bare0_ints | assumption | (intro v hv; (repeat (rcases List.mem_cons.1 hv with rfl | hv; exact rfl)); cases hv)) | exact ltB_loop rfl rfl | exact hMap _ | exact hMap2 _ | exact grB_lt (by first | exact bare0_ints | assumption | (intro v hv; (repeat (rcases List.mem_cons.1 hv with rfl | hv; exact rfl)); cases hv)) _ | exact ltB_mapB | assumption) (avB_nil _) rfl | exact SubQ.ofL (by first | rfl | simp) (by first | exact bare0_ints | assumption | (intro v hv; (repeat (rcases List.mem_cons.1 hv with rfl | hv; exact rfl)); cases hv)) (by first | exact Or.inl rfl | exact Or.inr rfl) | exact SubQ.fin (by (conv => whnf); (repeat' (first | exact True.intro | rfl | refine And.intro ?_ ?_)); done) (fun h => h) (by first | exact Or.inl rfl | exact Or.inr rfl)))), rfl, rfl⟩⟩)
          | none =>
            have hlen : l.length ≤ k := by simpa using hy
            rw [List.drop_eq_nil_of_le hlen] at k4
            (conv => whnf); (repeat' (first | ((with_reducible refine ifb_mk (fun hc => ?_) (fun hc => ?_)) <;> ((try simp only [decide_eq_true_eq, decide_eq_false_iff_not, Bool.not_eq_true', Bool.not_eq_false', Int.not_lt, Int.not_le, ne_eq, Decidable.not_not, beq_iff_eq, List.cons.injEq, and_true] at hc); (first | (exfalso; omega) | conv => whnf))) | ((with_reducible refine And.intro True.intro ?_); conv => whnf) | ((with_reducible refine And.intro ?hh ?_); (case hh => (unfold InR; (try dsimp only); omega)); conv => whnf) | ((with_reducible refine And.intro ?hh ?_); (case hh => ((try dsimp only); omega)); conv => whnf) | ((with_reducible refine And.intro ?hh ?_); (case hh => ((conv => whnf); (repeat' (first | exact True.intro | rfl | refine And.intro ?_ ?_)); done)); conv => whnf) | fail))
            exact ⟨(i + 1, x), [], by dsimp only; omega, ⟨by dsimp only; omega, fun _ => k3, by rw [decide_eq_false (by omega : ¬ i + 1 = 0)]; exact k4⟩, ⟨rfl, rfl, (by (repeat' (first | exact True.intro | rfl | refine And.intro ?_ ?_))), (by (repeat' (first | exact True.intro | rfl | refine And.intro ?_ ?_))), (by (repeat' (first | exact True.intro | rfl | refine And.intro ?_ ?_))), (by (repeat' (first | exact True.intro | exact Or.inl rfl | refine And.intro ?_ ?_ | refine Or.inr ⟨_, rfl, ?_⟩ | exact SubQ.same (n := 1000) (Y := []) (fun _ _ _ => rfl) (by first | exact True.intro | exact ltB_all rfl | exact ltB_ofLb (by first | exact bare0_ints | assumption | (intro v hv; (repeat (rcases List.mem_cons.1 hv with rfl | hv; exact rfl)); cases hv)) | exact ltB_loop rfl rfl | exact hMap _ | exact hMap2 _ | exact grB_lt (by first | exact bare0_ints | assumption | (intro v hv; (repeat (rcases List.mem_cons.1 hv with rfl | hv; exact rfl)); cases hv)) _ | exact ltB_mapB | assumption) (avB_nil _) rfl | exact SubQ.ofL (by first | rfl | simp) (by first | exact bare0_ints | assumption | (intro v hv; (repeat (rcases List.mem_cons.1 hv with rfl | hv; exact rfl)); cases hv)) (by first | exact Or.inl rfl | exact Or.inr rfl) | exact SubQ.fin (by (conv => whnf); (repeat' (first | exact True.intro | rfl | refine And.intro ?_ ?_)); done) (fun h => h) (by first | exact Or.inl rfl | exact Or.inr rfl)))), rfl, rfl⟩⟩
    · have eT : termI t a b e = fr (e.2.2 * b.2 + b.1 * (t - e.1)) b.2 := by unfold termI; rw [if_neg hte]
      rw [eT] at hO0
      obtain ⟨TI, hTI⟩ : ∃ T, T = fr (e.2.2 * b.2 + b.1 * (t - e.1)) b.2 := ⟨_, rfl⟩
      have kT := fun h' => (kB h').1
      rw [← hTI] at hO0 eT kT
      by_cases hi0 : i = 0
      · as_aux_lemma =>
        have hO1 : OkH TI := hO0
        have hJ1 : hiQt t a b l = hiGo t a b false (hiIn t e TI (l.drop (i + 1))) (l.drop (i + 1)) := by rw [j3]; show hiGo t a b false (hiIn t e (if (decide (i = 0) || ltQ (termI t a b e) x) = true then termI t a b e else x) _) _ = _; rw [eT, decide_eq_true hi0]; rfl
        (conv => whnf); (repeat' (first | ((with_reducible refine ifb_mk (fun hc => ?_) (fun hc => ?_)) <;> ((try simp only [decide_eq_true_eq, decide_eq_false_iff_not, Bool.not_eq_true', Bool.not_eq_false', Int.not_lt, Int.not_le, ne_eq, Decidable.not_not, beq_iff_eq, List.cons.injEq, and_true] at hc); (first | (exfalso; omega) | conv => whnf))) | ((with_reducible refine And.intro True.intro ?_); conv => whnf) | ((with_reducible refine grd_getN ?_); refine som_mk (a := ?_) ?hh ?_; (case hh => exact entGetN hx); conv => whnf) | ((with_reducible refine CallX.all ?_); refine CallW.of_ok (kT _) ?_; conv => whnf) | ((with_reducible refine CallX.all ?_); refine CallW.of_ok ((kB _).1) ?_; conv => whnf) | ((with_reducible refine And.intro ?hh ?_); (case hh => (unfold InR; (try dsimp only); omega)); conv => whnf) | ((with_reducible refine And.intro ?hh ?_); (case hh => ((try dsimp only); omega)); conv => whnf) | ((with_reducible refine And.intro ?hh ?_); (case hh => ((conv => whnf); (repeat' (first | exact True.intro | rfl | refine And.intro ?_ ?_)); done)); conv => whnf) | fail))
        all_goals (first | (exfalso; omega) | skip)
        refine WpR.loopD (ι := Nat × (Int × Int)) [] [1, 2, 4, 5, 6, 7, 8, 9, 10] [5] [] 8 (fun p => [(11, .int .i64 p.1)]) (fun p => [(5, .cells (ofL [.int .i64 p.2.1, .int .i64 p.2.2] 0) true none)]) (fun p => l.length - p.1) (fun p => i < p.1 ∧ p.1 ≤ l.length ∧ OkH p.2 ∧ hiQt t a b l = hiGo t a b false (hiIn t e p.2 (l.drop p.1)) (l.drop (i + 1))) ?_ ((i + 1, TI)) (⟨by dsimp only; omega, by dsimp only; omega, hO1, hJ1⟩) [] ⟨rfl, rfl, (by (repeat' (first | exact True.intro | rfl | refine And.intro ?_ ?_))), (by (repeat' (first | exact True.intro | rfl | refine And.intro ?_ ?_))), (by (repeat' (first | exact True.intro | rfl | refine And.intro ?_ ?_))), (by (repeat' (first | exact True.intro | exact Or.inl rfl | refine And.intro ?_ ?_ | refine Or.inr ⟨_, rfl, ?_⟩ | exact SubQ.same (n := 1000) (Y := []) (fun _ _ _ => rfl) (by first | exact True.intro | exact ltB_all rfl | exact ltB_ofLb (by first | exact bare0_ints | assumption | (intro v hv; (repeat (rcases List.mem_cons.1 hv with rfl | hv; exact rfl)); cases hv)) | exact ltB_loop rfl rfl | exact hMap _ | exact hMap2 _ | exact grB_lt (by first | exact bare0_ints | assumption | (intro v hv; (repeat (rcases List.mem_cons.1 hv with rfl | hv; exact rfl)); cases hv)) _ | exact ltB_mapB | assumption) (avB_nil _) rfl | exact SubQ.ofL (by first | rfl | simp) (by first | exact bare0_ints | assumption | (intro v hv; (repeat (rcases List.mem_cons.1 hv with rfl | hv; exact rfl)); cases hv)) (by first | exact Or.inl rfl | exact Or.inr rfl) | exact SubQ.fin (by (conv => whnf); (repeat' (first | exact True.intro | rfl | refine And.intro ?_ ?_)); done) (fun h => h) (by first | exact Or.inl rfl | exact Or.inr rfl)))), rfl, rfl⟩ rfl rfl rfl (fun _ => rfl) (by (repeat' (first | exact True.intro | refine And.intro ?_ ?_ | exact avV_nil _ | rfl))) (by (repeat' (first | exact True.intro | (with_reducible exact avB_nil _) | ((with_reducible refine avB_all ?_); rfl) | ((with_reducible refine avB_ofLb ?_); exact (by first | exact bare0_ints | assumption | (intro v hv; (repeat (rcases List.mem_cons.1 hv with rfl | hv; exact rfl)); cases hv))) | ((with_reducible refine ltB_all ?_); rfl) | ((with_reducible refine ltB_ofLb ?_); exact (by first | exact bare0_ints | assumption | (intro v hv; (repeat (rcases List.mem_cons.1 hv with rfl | hv; exact rfl)); cases hv))) | ((with_reducible refine ltB_loop ?_ ?_) <;> rfl) | (with_reducible exact hMap _) | (with_reducible exact hMap2 _) | (with_reducible exact ltB_mapB) | ((with_reducible refine grB_lt ?_ _); exact (by first | exact bare0_ints | assumption | (intro v hv; (repeat (rcases List.mem_cons.1 hv with rfl | hv; exact rfl)); cases hv))) | (with_reducible assumption) | refine And.intro ?_ ?_ | exact (by first | exact True.intro | exact ltB_all rfl | exact ltB_ofLb (by first | exact bare0_ints | assumption | (intro v hv; (repeat (rcases List.mem_cons.1 hv with rfl | hv; exact rfl)); cases hv)) | exact ltB_loop rfl rfl | exact hMap _ | exact hMap2 _ | exact grB_lt (by first | exact bare0_ints | assumption | (intro v hv; (repeat (rcases List.mem_cons.1 hv with rfl | hv; exact rfl)); cases hv)) _ | exact ltB_mapB | assumption)))) (fun _ _ => (by (repeat' (first | exact True.intro | rfl | refine And.intro ?_ ?_ | exact (by decide) | exact (by first | exact True.intro | exact hMap _ | exact hMap2 _ | exact grB_lt (by first | exact bare0_ints | assumption | (intro v hv; (repeat (rcases List.mem_cons.1 hv with rfl | hv; exact rfl)); cases hv)) _ | exact ltB_all rfl | exact ltB_ofLb (by first | exact bare0_ints | assumption | (intro v hv; (repeat (rcases List.mem_cons.1 hv with rfl | hv; exact rfl)); cases hv)) | exact ltB_loop rfl rfl | exact ltB_mapB | assumption))))) (fun _ _ => (by (repeat' (first | exact True.intro | rfl | refine And.intro ?_ ?_ | exact (by decide) | exact (by first | exact True.intro | exact hMap _ | exact hMap2 _ | exact grB_lt (by first | exact bare0_ints | assumption | (intro v hv; (repeat (rcases List.mem_cons.1 hv with rfl | hv; exact rfl)); cases hv)) _ | exact ltB_all rfl | exact ltB_ofLb (by first | exact bare0_ints | assumption | (intro v hv; (repeat (rcases List.mem_cons.1 hv with rfl | hv; exact rfl)); cases hv)) | exact ltB_loop rfl rfl | exact ltB_mapB | assumption))))) (fun _ _ => (by (repeat' (first | exact True.intro | rfl | refine And.intro ?_ ?_)))) rfl
        rintro ⟨k, x⟩ ⟨k1, k2, k3, k4⟩
        dsimp only at k1 k2 k3 k4
        refine WpR.of_vc ?_
        cases hy : l[k]? with
        | some f =>
          rw [drop_at hy] at k4
          have hklt := (List.getElem?_eq_some_iff.1 hy).1
          have hf := hS.ent _ _ hy
          have hef := hS.inc _ _ _ _ k1 hx hy
          by_cases hcond : t < e.1 ∨ f.1 < t
          · have e3 : hiIn t e x (f :: l.drop (k + 1)) = hiIn t e x (l.drop (k + 1)) := by show hiIn t e (inH t e x f) _ = _; unfold inH; rw [if_pos hcond]
            rw [e3] at k4
            (conv => whnf); (repeat' (first | ((with_reducible refine ifb_mk (fun hc => ?_) (fun hc => ?_)) <;> ((try simp only [decide_eq_true_eq, decide_eq_false_iff_not, Bool.not_eq_true', Bool.not_eq_false', Int.not_lt, Int.not_le, ne_eq, Decidable.not_not, beq_iff_eq, List.cons.injEq, and_true] at hc); (first | (exfalso; omega) | conv => whnf))) | ((with_reducible refine And.intro True.intro ?_); conv => whnf) | ((with_reducible refine grd_getN ?_); refine som_mk (a := ?_) ?hh ?_; (case hh => exact entGetN hy); conv => whnf) | ((with_reducible refine And.intro ?hh ?_); (case hh => (unfold InR; (try dsimp only); omega)); conv => whnf) | ((with_reducible refine And.intro ?hh ?_); (case hh => ((try dsimp only); omega)); conv => whnf) | ((with_reducible refine And.intro ?hh ?_); (case hh => ((conv => whnf); (repeat' (first | exact True.intro | rfl | refine And.intro ?_ ?_)); done)); conv => whnf) | fail))
            all_goals (first | (exfalso; omega) | exact ⟨(k + 1, x), [], by dsimp only; omega, ⟨by dsimp only; omega, by dsimp only; omega, k3, k4⟩, ⟨rfl, rfl, (by (repeat' (first | exact True.intro | rfl | refine And.intro ?_ ?_))), (by (repeat' (first | exact True.intro | rfl | refine And.intro ?_ ?_))), (by (repeat' (first | exact True.intro | rfl | refine And.intro ?_ ?_))), (by (repeat' (first | exact True.intro | exact Or.inl rfl | refine And.intro ?_ ?_ | refine Or.inr ⟨_, rfl, ?_⟩ | exact SubQ.same (n := 1000) (Y := []) (fun _ _ _ => rfl) (by first | exact True.intro | exact ltB_all rfl | exact ltB_ofLb (by first | exact bare0_ints | assumption | (intro v hv; (repeat (rcases List.mem_cons.1 hv with rfl | hv; exact rfl)); cases hv)) | exact ltB_loop rfl rfl | exact hMap _ | exact hMap2 _ | exact grB_lt (by first | exact bare0_ints | assumption | (intro v hv; (repeat (rcases List.mem_cons.1 hv with rfl | hv; exact rfl)); cases hv)) _ | exact ltB_mapB | assumption) (avB_nil _) rfl | exact SubQ.ofL (by first | rfl | simp) (by first | exact bare0_ints | assumption | (intro v hv; (repeat (rcases List.mem_cons.1 hv with rfl | hv; exact rfl)); cases hv)) (by first | exact Or.inl rfl | exact Or.inr rfl) | exact SubQ.fin (by (conv => whnf); (repeat' (first | exact True.intro | rfl | refine And.intro ?_ ?_)); done) (fun h => h) (by first | exact Or.inl rfl | exact Or.inr rfl)))), rfl, rfl⟩⟩)
          · have hto := termP_ok ht he hf hef (by omega) (by omega)
            obtain ⟨q1, q2, q3⟩ := hto
            have kF := fun h' => refFraction_ok h' (e.2.2 * (f.1 - t) + f.2.2 * (t - e.1)) (f.1 - e.1) (by unfold InQ; omega) (by omega)
            have kL := fun h' => refLess_ok h' (termP t e f).1 (termP t e f).2 x.1 x.2 (InR_mul6 q3.n k3.d) (InR_mul6 k3.n q3.d)
            have e3 : hiIn t e x (f :: l.drop (k + 1)) = hiIn t e (if ltQ (termP t e f) x = true then termP t e f else x) (l.drop (k + 1)) := by show hiIn t e (inH t e x f) _ = _; unfold inH; rw [if_neg hcond]
            rw [e3] at k4
            change ∀ h', CallOk Try.prog 53 _ h' (qV (termP t e f)) h' at kF
            change ∀ h', CallOk Try.prog 46 _ h' (.bool (ltQ (termP t e f) x)) h' at kL
            generalize termP t e f = T at *
            cases hlt : ltQ T x with
            | true =>
              rw [hlt] at kL k4
              (conv => whnf); (repeat' (first | ((with_reducible refine ifb_mk (fun hc => ?_) (fun hc => ?_)) <;> ((try simp only [decide_eq_true_eq, decide_eq_false_iff_not, Bool.not_eq_true', Bool.not_eq_false', Int.not_lt, Int.not_le, ne_eq, Decidable.not_not, beq_iff_eq, List.cons.injEq, and_true] at hc); (first | (exfalso; omega) | conv => whnf))) | ((with_reducible refine And.intro True.intro ?_); conv => whnf) | ((with_reducible refine grd_getN ?_); refine som_mk (a := ?_) ?hh ?_; (case hh => exact entGetN hy); conv => whnf) | ((with_reducible refine CallX.all ?_); refine CallW.of_ok (kF _) ?_; conv => whnf) | ((with_reducible refine CallX.all ?_); refine CallW.of_ok (kL _) ?_; conv => whnf) | ((with_reducible refine And.intro ?hh ?_); (case hh => (unfold InR; (try dsimp only); omega)); conv => whnf) | ((with_reducible refine And.intro ?hh ?_); (case hh => ((try dsimp only); omega)); conv => whnf) | ((with_reducible refine And.intro ?hh ?_); (case hh => ((conv => whnf); (repeat' (first | exact True.intro | rfl | refine And.intro ?_ ?_)); done)); conv => whnf) | fail))
              all_goals (first | (exfalso; omega) | exact ⟨(k + 1, T), [], by dsimp only; omega, ⟨by dsimp only; omega, by dsimp only; omega, q3, k4⟩, ⟨rfl, rfl, (by (repeat' (first | exact True.intro | rfl | refine And.intro ?_ ?_))), (by (repeat' (first | exact True.intro | rfl | refine And.intro ?_ ?_))), (by (repeat' (first | exact True.intro | rfl | refine And.intro ?_ ?_))), (by (repeat' (first | exact True.intro | exact Or.inl rfl | refine And.intro ?_ ?_ | refine Or.inr ⟨_, rfl, ?_⟩ | exact SubQ.same (n := 1000) (Y := []) (fun _ _ _ => rfl) (by first | exact True.intro | exact ltB_all rfl | exact ltB_ofLb (by first | exact bare0_ints | assumption | (intro v hv; (repeat (rcases List.mem_cons.1 hv with rfl | hv; exact rfl)); cases hv)) | exact ltB_loop rfl rfl | exact hMap _ | exact hMap2 _ | exact grB_lt (by first | exact bare0_ints | assumption | (intro v hv; (repeat (rcases List.mem_cons.1 hv with rfl | hv; exact rfl)); cases hv)) _ | exact ltB_mapB | assumption) (avB_nil _) rfl | exact SubQ.ofL (by first | rfl | simp) (by first | exact bare0_ints | assumption | (intro v hv; (repeat (rcases List.mem_cons.1 hv with rfl | hv; exact rfl)); cases hv)) (by first | exact Or.inl rfl | exact Or.inr rfl) | exact SubQ.fin (by (conv => whnf); (repeat' (first | exact True.intro | rfl | refine And.intro ?_ ?_)); done) (fun h => h) (by first | exact Or.inl rfl | exact Or.inr rfl)))), rfl, rfl⟩⟩)
            | false =>
              rw [hlt] at kL k4
              (conv => whnf); (repeat' (first | ((with_reducible refine ifb_mk (fun hc => ?_) (fun hc => ?_)) <;> ((try simp only [decide_eq_true_eq, decide_eq_false_iff_not, Bool.not_eq_true', Bool.not_eq_false', Int.not_lt, Int.not_le, ne_eq, Decidable.not_not, beq_iff_eq, List.cons.injEq, and_true] at hc); (first | (exfalso; omega) | conv => whnf))) | ((with_reducible refine And.intro True.intro ?_); conv => whnf) | ((with_reducible refine grd_getN ?_); refine som_mk (a := ?_) ?hh ?_; (case hh => exact entGetN hy); conv => whnf) | ((with_reducible refine CallX.all ?_); refine CallW.of_ok (kF _) ?_; conv => whnf) | ((with_reducible refine CallX.all ?_); refine CallW.of_ok (kL _) ?_; conv => whnf) | ((with_reducible refine And.intro ?hh ?_); (case hh => (unfold InR; (try dsimp only); omega)); conv => whnf) | ((with_reducible refine And.intro ?hh ?_); (case hh => ((try dsimp only); omega)); conv => whnf) | ((with_reducible refine And.intro ?hh ?_); (case hh => ((conv => whnf); (repeat' (first | exact True.intro | rfl | refine And.intro ?_ ?_)); done)); conv => whnf) | fail))
              all_goals (first | (exfalso; omega) | exact ⟨(k + 1, x), [], by dsimp only; omega, ⟨by dsimp only; omega, by dsimp only; omega, k3, k4⟩, ⟨rfl, rfl, (by (repeat' (first | exact True.intro | rfl | refine And.intro ?_ ?_))), (by (repeat' (first | exact True.intro | rfl | refine And.intro ?_ ?_))), (by (repeat' (first | exact True.intro | rfl | refine And.intro ?_ ?_))), (by (repeat' (first | exact True.intro | exact Or.inl rfl | refine And.intro ?_ ?_ | refine Or.inr ⟨_, rfl, ?_⟩ | exact SubQ.same (n := 1000) (Y := []) (fun _ _ _ => rfl) (by first | exact True.intro | exact ltB_all rfl | exact ltB_ofLb (by first | exact bare0_ints | assumption | (intro v hv; (repeat (rcases List.mem_cons.1 hv with rfl | hv; exact rfl)); cases hv)) | exact ltB_loop rfl rfl | exact hMap _ | exact hMap2 _ | exact grB_lt (by first | exact bare0_ints | assumption | (intro v hv; (repeat (rcases List.mem_cons.1 hv with rfl | hv; exact rfl)); cases hv)) _ | exact ltB_mapB | assumption) (avB_nil _) rfl | exact SubQ.ofL (by first | rfl | simp) (by first | exact bare0_ints | assumption | (intro v hv; (repeat (rcases List.mem_cons.1 hv with rfl | hv; exact rfl)); cases hv)) (by first | exact Or.inl rfl | exact Or.inr rfl) | exact SubQ.fin (by (conv => whnf); (repeat' (first | exact True.intro | rfl | refine And.intro ?_ ?_)); done) (fun h => h) (by first | exact Or.inl rfl | exact Or.inr rfl)))), rfl, rfl⟩⟩)
        | none =>
          have hlen : l.length ≤ k := by simpa using hy
          rw [List.drop_eq_nil_of_le hlen] at k4
          (conv => whnf); (repeat' (first | ((with_reducible refine ifb_mk (fun hc => ?_) (fun hc => ?_)) <;> ((try simp only [decide_eq_true_eq, decide_eq_false_iff_not, Bool.not_eq_true', Bool.not_eq_false', Int.not_lt, Int.not_le, ne_eq, Decidable.not_not, beq_iff_eq, List.cons.injEq, and_true] at hc); (first | (exfalso; omega) | conv => whnf))) | ((with_reducible refine And.intro True.intro ?_); conv => whnf) | ((with_reducible refine And.intro ?hh ?_); (case hh => (unfold InR; (try dsimp only); omega)); conv => whnf) | ((with_reducible refine And.intro ?hh ?_); (case hh => ((try dsimp only); omega)); conv => whnf) | ((with_reducible refine And.intro ?hh ?_); (case hh => ((conv => whnf); (repeat' (first | exact True.intro | rfl | refine And.intro ?_ ?_)); done)); conv => whnf) | fail))
          exact ⟨(i + 1, x), [], by dsimp only; omega, ⟨by dsimp only; omega, fun _ => k3, by rw [decide_eq_false (by omega : ¬ i + 1 = 0)]; exact k4⟩, ⟨rfl, rfl, (by (repeat' (first | exact True.intro | rfl | refine And.intro ?_ ?_))), (by (repeat' (first | exact True.intro | rfl | refine And.intro ?_ ?_))), (by (repeat' (first | exact True.intro | rfl | refine And.intro ?_ ?_))), (by (repeat' (first | exact True.intro | exact Or.inl rfl | refine And.intro ?_ ?_ | refine Or.inr ⟨_, rfl, ?_⟩ | exact SubQ.same (n := 1000) (Y := []) (fun _ _ _ => rfl) (by first | exact True.intro | exact ltB_all rfl | exact ltB_ofLb (by first | exact bare0_ints | assumption | (intro v hv; (repeat (rcases List.mem_cons.1 hv with rfl | hv; exact rfl)); cases hv)) | exact ltB_loop rfl rfl | exact hMap _ | exact hMap2 _ | exact grB_lt (by first | exact bare0_ints | assumption | (intro v hv; (repeat (rcases List.mem_cons.1 hv with rfl | hv; exact rfl)); cases hv)) _ | exact ltB_mapB | assumption) (avB_nil _) rfl | exact SubQ.ofL (by first | rfl | simp) (by first | exact bare0_ints | assumption | (intro v hv; (repeat (rcases List.mem_cons.1 hv with rfl | hv; exact rfl)); cases hv)) (by first | exact Or.inl rfl | exact Or.inr rfl) | exact SubQ.fin (by (conv => whnf); (repeat' (first | exact True.intro | rfl | refine And.intro ?_ ?_)); done) (fun h => h) (by first | exact Or.inl rfl | exact Or.inr rfl)))), rfl, rfl⟩⟩
      · have hOx := j2 (by omega)
        have kL := fun h' => refLess_ok h' TI.1 TI.2 x.1 x.2 (InR_mul6 hO0.n hOx.d) (InR_mul6 hOx.n hO0.d)
        change ∀ h', CallOk Try.prog 46 _ h' (.bool (ltQ TI x)) h' at kL
        cases hlq : ltQ TI x with
        | true =>
          as_aux_lemma =>
          rw [hlq] at kL
          have hO1 : OkH TI := hO0
          have hJ1 : hiQt t a b l = hiGo t a b false (hiIn t e TI (l.drop (i + 1))) (l.drop (i + 1)) := by rw [j3]; show hiGo t a b false (hiIn t e (if (decide (i = 0) || ltQ (termI t a b e) x) = true then termI t a b e else x) _) _ = _; rw [eT, hlq, Bool.or_true]; rfl
          (conv => whnf); (repeat' (first | ((with_reducible refine ifb_mk (fun hc => ?_) (fun hc => ?_)) <;> ((try simp only [decide_eq_true_eq, decide_eq_false_iff_not, Bool.not_eq_true', Bool.not_eq_false', Int.not_lt, Int.not_le, ne_eq, Decidable.not_not, beq_iff_eq, List.cons.injEq, and_true] at hc); (first | (exfalso; omega) | conv => whnf))) | ((with_reducible refine And.intro True.intro ?_); conv => whnf) | ((with_reducible refine grd_getN ?_); refine som_mk (a := ?_) ?hh ?_; (case hh => exact entGetN hx); conv => whnf) | ((with_reducible refine CallX.all ?_); refine CallW.of_ok (kT _) ?_; conv => whnf) | ((with_reducible refine CallX.all ?_); refine CallW.of_ok ((kB _).1) ?_; conv => whnf) | ((with_reducible refine CallX.all ?_); refine CallW.of_ok (kL _) ?_; conv => whnf) | ((with_reducible refine And.intro ?hh ?_); (case hh => (unfold InR; (try dsimp only); omega)); conv => whnf) | ((with_reducible refine And.intro ?hh ?_); (case hh => ((try dsimp only); omega)); conv => whnf) | ((with_reducible refine And.intro ?hh ?_); (case hh => ((conv => whnf); (repeat' (first | exact True.intro | rfl | refine And.intro ?_ ?_)); done)); conv => whnf) | fail))
          all_goals (first | (exfalso; omega) | skip)
          refine WpR.loopD (ι := Nat × (Int × Int)) [] [1, 2, 4, 5, 6, 7, 8, 9, 10] [5] [] 8 (fun p => [(11, .int .i64 p.1)]) (fun p => [(5, .cells (ofL [.int .i64 p.2.1, .int .i64 p.2.2] 0) true none)]) (fun p => l.length - p.1) (fun p => i < p.1 ∧ p.1 ≤ l.length ∧ OkH p.2 ∧ hiQt t a b l = hiGo t a b false (hiIn t e p.2 (l.drop p.1)) (l.drop (i + 1))) ?_ ((i + 1, TI)) (⟨by dsimp only; omega, by dsimp only; omega, hO1, hJ1⟩) [] ⟨rfl, rfl, (by (repeat' (first | exact True.intro | rfl | refine And.intro ?_ ?_))), (by (repeat' (first | exact True.intro | rfl | refine And.intro ?_ ?_))), (by (repeat' (first | exact True.intro | rfl | refine And.intro ?_ ?_))), (by (repeat' (first | exact True.intro | exact Or.inl rfl | refine And.intro ?_ ?_ | refine Or.inr ⟨_, rfl, ?_⟩ | exact SubQ.same (n := 1000) (Y := []) (fun _ _ _ => rfl) (by first | exact True.intro | exact ltB_all rfl | exact ltB_ofLb (by first | exact bare0_ints | assumption | (intro v hv; (repeat (rcases List.mem_cons.1 hv with rfl | hv; exact rfl)); cases hv)) | exact ltB_loop rfl rfl | exact hMap _ | exact hMap2 _ | exact grB_lt (by first | exact bare0_ints | assumption | (intro v hv; (repeat (rcases List.mem_cons.1 hv with rfl | hv; exact rfl)); cases hv)) _ | exact ltB_mapB | assumption) (avB_nil _) rfl | exact SubQ.ofL (by first | rfl | simp) (by first | exact bare0_ints | assumption | (intro v hv; (repeat (rcases List.mem_cons.1 hv with rfl | hv; exact rfl)); cases hv)) (by first | exact Or.inl rfl | exact Or.inr rfl) | exact SubQ.fin (by (conv => whnf); (repeat' (first | exact True.intro | rfl | refine And.intro ?_ ?_)); done) (fun h => h) (by first | exact Or.inl rfl | exact Or.inr rfl)))), rfl, rfl⟩ rfl rfl rfl (fun _ => rfl) (by (repeat' (first | exact True.intro | refine And.intro ?_ ?_ | exact avV_nil _ | rfl))) (by (repeat' (first | exact True.intro | (with_reducible exact avB_nil _) | ((with_reducible refine avB_all ?_); rfl) | ((with_reducible refine avB_ofLb ?_); exact (by first | exact bare0_ints | assumption | (intro v hv; (repeat (rcases List.mem_cons.1 hv with rfl | hv; exact rfl)); cases hv))) | ((with_reducible refine ltB_all ?_); rfl) | ((with_reducible refine ltB_ofLb ?_); exact (by first | exact bare0_ints | assumption | (intro v hv; (repeat (rcases List.mem_cons.1 hv with rfl | hv; exact rfl)); cases hv))) | ((with_reducible refine ltB_loop ?_ ?_) <;> rfl) | (with_reducible exact hMap _) | (with_reducible exact hMap2 _) | (with_reducible exact ltB_mapB) | ((with_reducible refine grB_lt ?_ _); exact (by first | exact bare0_ints | assumption | (intro v hv; (repeat (rcases List.mem_cons.1 hv with rfl | hv; exact rfl)); cases hv))) | (with_reducible assumption) | refine And.intro ?_ ?_ | exact (by first | exact True.intro | exact ltB_all rfl | exact ltB_ofLb (by first | exact bare0_ints | assumption | (intro v hv; (repeat (rcases List.mem_cons.1 hv with rfl | hv; exact rfl)); cases hv)) | exact ltB_loop rfl rfl | exact hMap _ | exact hMap2 _ | exact grB_lt (by first | exact bare0_ints | assumption | (intro v hv; (repeat (rcases List.mem_cons.1 hv with rfl | hv; exact rfl)); cases hv)) _ | exact ltB_mapB | assumption)))) (fun _ _ => (by (repeat' (first | exact True.intro | rfl | refine And.intro ?_ ?_ | exact (by decide) | exact (by first | exact True.intro | exact hMap _ | exact hMap2 _ | exact grB_lt (by first | exact bare0_ints | assumption | (intro v hv; (repeat (rcases List.mem_cons.1 hv with rfl | hv; exact rfl)); cases hv)) _ | exact ltB_all rfl | exact ltB_ofLb (by first | exact bare0_ints | assumption | (intro v hv; (repeat (rcases List.mem_cons.1 hv with rfl | hv; exact rfl)); cases hv)) | exact ltB_loop rfl rfl | exact ltB_mapB | assumption))))) (fun _ _ => (by (repeat' (first | exact True.intro | rfl | refine And.intro ?_ ?_ | exact (by decide) | exact (by first | exact True.intro | exact hMap _ | exact hMap2 _ | exact grB_lt (by first | exact bare0_ints | assumption | (intro v hv; (repeat (rcases List.mem_cons.1 hv with rfl | hv; exact rfl)); cases hv)) _ | exact ltB_all rfl | exact ltB_ofLb (by first | exact bare0_ints | assumption | (intro v hv; (repeat (rcases List.mem_cons.1 hv with rfl | hv; exact rfl)); cases hv)) | exact ltB_loop rfl rfl | exact ltB_mapB | assumption))))) (fun _ _ => (by (repeat' (first | exact True.intro | rfl | refine And.intro ?_ ?_)))) rfl
          rintro ⟨k, x⟩ ⟨k1, k2, k3, k4⟩
          dsimp only at k1 k2 k3 k4
          refine WpR.of_vc ?_
          cases hy : l[k]? with
          | some f =>
            rw [drop_at hy] at k4
            have hklt := (List.getElem?_eq_some_iff.1 hy).1
            have hf := hS.ent _ _ hy
            have hef := hS.inc _ _ _ _ k1 hx hy
            by_cases hcond : t < e.1 ∨ f.1 < t
            · have e3 : hiIn t e x (f :: l.drop (k + 1)) = hiIn t e x (l.drop (k + 1)) := by show hiIn t e (inH t e x f) _ = _; unfold inH; rw [if_pos hcond]
              rw [e3] at k4
              (conv => whnf); (repeat' (first | ((with_reducible refine ifb_mk (fun hc => ?_) (fun hc => ?_)) <;> ((try simp only [decide_eq_true_eq, decide_eq_false_iff_not, Bool.not_eq_true', Bool.not_eq_false', Int.not_lt, Int.not_le, ne_eq, Decidable.not_not, beq_iff_eq, List.cons.injEq, and_true] at hc); (first | (exfalso; omega) | conv => whnf))) | ((with_reducible refine And.intro True.intro ?_); conv => whnf) | ((with_reducible refine grd_getN ?_); refine som_mk (a := ?_) ?hh ?_; (case hh => exact entGetN hy); conv => whnf) | ((with_reducible refine And.intro ?hh ?_); (case hh => (unfold InR; (try dsimp only); omega)); conv => whnf) | ((with_reducible refine And.intro ?hh ?_); (case hh => ((try dsimp only); omega)); conv => whnf) | ((with_reducible refine And.intro ?hh ?_); (case hh => ((conv => whnf); (repeat' (first | exact True.intro | rfl | refine And.intro ?_ ?_)); done)); conv => whnf) | fail))
              all_goals (first | (exfalso; omega) | exact ⟨(k + 1, x), [], by dsimp only; omega, ⟨by dsimp only; omega, by dsimp only; omega, k3, k4⟩, ⟨rfl, rfl, (by (repeat' (first | exact True.intro | rfl | refine And.intro ?_ ?_))), (by (repeat' (first | exact True.intro | rfl | refine And.intro ?_ ?_))), (by (repeat' (first | exact True.intro | rfl | refine And.intro ?_ ?_))), (by (repeat' (first | exact True.intro | exact Or.inl rfl | refine And.intro ?_ ?_ | refine Or.inr ⟨_, rfl, ?_⟩ | exact SubQ.same (n := 1000) (Y := []) (fun _ _ _ => rfl) (by first | exact True.intro | exact ltB_all rfl | exact ltB_ofLb (by first | exact bare0_ints | assumption | (intro v hv; (repeat (rcases List.mem_cons.1 hv with rfl | hv; exact rfl)); cases hv)) | exact ltB_loop rfl rfl | exact hMap _ | exact hMap2 _ | exact grB_lt (by first | exact bare0_ints | assumption | (intro v hv; (repeat (rcases List.mem_cons.1 hv with rfl | hv; exact rfl)); cases hv)) _ | exact ltB_mapB | assumption) (avB_nil _) rfl | exact SubQ.ofL (by first | rfl | simp) (by first | exact bare0_ints | assumption | (intro v hv; (repeat (rcases List.mem_cons.1 hv with rfl | hv; exact rfl)); cases hv)) (by first | exact Or.inl rfl | exact Or.inr rfl) | exact SubQ.fin (by (conv => whnf); (repeat' (first | exact True.intro | rfl | refine And.intro ?_ ?_)); done) (fun h => h) (by first | exact Or.inl rfl | exact Or.inr rfl)))), rfl, rfl⟩⟩)
            · have hto := termP_ok ht he hf hef (by omega) (by omega)
              obtain ⟨q1, q2, q3⟩ := hto
              have kF := fun h' => refFraction_ok h' (e.2.2 * (f.1 - t) + f.2.2 * (t - e.1)) (f.1 - e.1) (by unfold InQ; omega) (by omega)
              have kL := fun h' => refLess_ok h' (termP t e f).1 (termP t e f).2 x.1 x.2 (InR_mul6 q3.n k3.d) (InR_mul6 k3.n q3.d)
              have e3 : hiIn t e x (f :: l.drop (k + 1)) = hiIn t e (if ltQ (termP t e f) x = true then termP t e f else x) (l.drop (k + 1)) := by show hiIn t e (inH t e x f) _ = _; unfold inH; rw [if_neg hcond]
              rw [e3] at k4
              change ∀ h', CallOk Try.prog 53 _ h' (qV (termP t e f)) h' at kF
              change ∀ h', CallOk Try.prog 46 _ h' (.bool (ltQ (termP t e f) x)) h' at kL
              generalize termP t e f = T at *
              cases hlt : ltQ T x with
              | true =>
                rw [hlt] at kL k4
                (conv => whnf); (repeat' (first | ((with_reducible refine ifb_mk (fun hc => ?_) (fun hc => ?_)) <;> ((try simp only [decide_eq_true_eq, decide_eq_false_iff_not, Bool.not_eq_true', Bool.not_eq_false', Int.not_lt, Int.not_le, ne_eq, Decidable.not_not, beq_iff_eq, List.cons.injEq, and_true] at hc); (first | (exfalso; omega) | conv => whnf))) | ((with_reducible refine And.intro True.intro ?_); conv => whnf) | ((with_reducible refine grd_getN ?_); refine som_mk (a := ?_) ?hh ?_; (case hh => exact entGetN hy); conv => whnf) | ((with_reducible refine CallX.all ?_); refine CallW.of_ok (kF _) ?_; conv => whnf) | ((with_reducible refine CallX.all ?_); refine CallW.of_ok (kL _) ?_; conv => whnf) | ((with_reducible refine And.intro ?hh ?_); (case hh => (unfold InR; (try dsimp only); omega)); conv => whnf) | ((with_reducible refine And.intro ?hh ?_); (case hh => ((try dsimp only); omega)); conv => whnf) | ((with_reducible refine And.intro ?hh ?_); (case hh => ((conv => whnf); (repeat' (first | exact True.intro | rfl | refine And.intro ?_ ?_)); done)); conv => whnf) | fail))
                all_goals (first | (exfalso; omega) | exact ⟨(k + 1, T), [], by dsimp only; omega, ⟨by dsimp only; omega, by dsimp only; omega, q3, k4⟩, ⟨rfl, rfl, (by (repeat' (first | exact True.intro | rfl | refine And.intro ?_ ?_))), (by (repeat' (first | exact True.intro | rfl | refine And.intro ?_ ?_))), (by (repeat' (first | exact True.intro | rfl | refine And.intro ?_ ?_))), (by (repeat' (first | exact True.intro | exact Or.inl rfl | refine And.intro ?_ ?_ | refine Or.inr ⟨_, rfl, ?_⟩ | exact SubQ.same (n := 1000) (Y := []) (fun _ _ _ => rfl) (by first | exact True.intro | exact ltB_all rfl | exact ltB_ofLb (by first | exact bare0_ints | assumption | (intro v hv; (repeat (rcases List.mem_cons.1 hv with rfl | hv; exact rfl)); cases hv)) | exact ltB_loop rfl rfl | exact hMap _ | exact hMap2 _ | exact grB_lt (by first | exact bare0_ints | assumption | (intro v hv; (repeat (rcases List.mem_cons.1 hv with rfl | hv; exact rfl)); cases hv)) _ | exact ltB_mapB | assumption) (avB_nil _) rfl | exact SubQ.ofL (by first | rfl | simp) (by first | exact bare0_ints | assumption | (intro v hv; (repeat (rcases List.mem_cons.1 hv with rfl | hv; exact rfl)); cases hv)) (by first | exact Or.inl rfl | exact Or.inr rfl) | exact SubQ.fin (by (conv => whnf); (repeat' (first | exact True.intro | rfl | refine And.intro ?_ ?_)); done) (fun h => h) (by first | exact Or.inl rfl | exact Or.inr rfl)))), rfl, rfl⟩⟩)
              | false =>
                rw [hlt] at kL k4
                (conv => whnf); (repeat' (first | ((with_reducible refine ifb_mk (fun hc => ?_) (fun hc => ?_)) <;> ((try simp only [decide_eq_true_eq, decide_eq_false_iff_not, Bool.not_eq_true', Bool.not_eq_false', Int.not_lt, Int.not_le, ne_eq, Decidable.not_not, beq_iff_eq, List.cons.injEq, and_true] at hc); (first | (exfalso; omega) | conv => whnf))) | ((with_reducible refine And.intro True.intro ?_); conv => whnf) | ((with_reducible refine grd_getN ?_); refine som_mk (a := ?_) ?hh ?_; (case hh => exact entGetN hy); conv => whnf) | ((with_reducible refine CallX.all ?_); refine CallW.of_ok (kF _) ?_; conv => whnf) | ((with_reducible refine CallX.all ?_); refine CallW.of_ok (kL _) ?_; conv => whnf) | ((with_reducible refine And.intro ?hh ?_); (case hh => (unfold InR; (try dsimp only); omega)); conv => whnf) | ((with_reducible refine And.intro ?hh ?_); (case hh => ((try dsimp only); omega)); conv => whnf) | ((with_reducible refine And.intro ?hh ?_); (case hh => ((conv => whnf); (repeat' (first | exact True.intro | rfl | refine And.intro ?_ ?_)); done)); conv => whnf) | fail))
                all_goals (first | (exfalso; omega) | exact ⟨(k + 1, x), [], by dsimp only; omega, ⟨by dsimp only; omega, by dsimp only; omega, k3, k4⟩, ⟨rfl, rfl, (by (repeat' (first | exact True.intro | rfl | refine And.intro ?_ ?_))), (by (repeat' (first | exact True.intro | rfl | refine And.intro ?_ ?_))), (by (repeat' (first | exact True.intro | rfl | refine And.intro ?_ ?_))), (by (repeat' (first | exact True.intro | exact Or.inl rfl | refine And.intro ?_ ?_ | refine Or.inr ⟨_, rfl, ?_⟩ | exact SubQ.same (n := 1000) (Y := []) (fun _ _ _ => rfl) (by first | exact True.intro | exact ltB_all rfl | exact ltB_ofLb (by first | exact bare0_ints | assumption | (intro v hv; (repeat (rcases List.mem_cons.1 hv with rfl | hv; exact rfl)); cases hv)) | exact ltB_loop rfl rfl | exact hMap _ | exact hMap2 _ | exact grB_lt (by first | exact bare0_ints | assumption | (intro v hv; (repeat (rcases List.mem_cons.1 hv with rfl | hv; exact rfl)); cases hv)) _ | exact ltB_mapB | assumption) (avB_nil _) rfl | exact SubQ.ofL (by first | rfl | simp) (by first | exact bare0_ints | assumption | (intro v hv; (repeat (rcases List.mem_cons.1 hv with rfl | hv; exact rfl)); cases hv)) (by first | exact Or.inl rfl | exact Or.inr rfl) | exact SubQ.fin (by (conv => whnf); (repeat' (first | exact True.intro | rfl | refine And.intro ?_ ?_)); done) (fun h => h) (by first | exact Or.inl rfl | exact Or.inr rfl)))), rfl, rfl⟩⟩)
          | none =>
            have hlen : l.length ≤ k := by simpa using hy
            rw [List.drop_eq_nil_of_le hlen] at k4
            (conv => whnf); (repeat' (first | ((with_reducible refine ifb_mk (fun hc => ?_) (fun hc => ?_)) <;> ((try simp only [decide_eq_true_eq, decide_eq_false_iff_not, Bool.not_eq_true', Bool.not_eq_false', Int.not_lt, Int.not_le, ne_eq, Decidable.not_not, beq_iff_eq, List.cons.injEq, and_true] at hc); (first | (exfalso; omega) | conv => whnf))) | ((with_reducible refine And.intro True.intro ?_); conv => whnf) | ((with_reducible refine And.intro ?hh ?_); (case hh => (unfold InR; (try dsimp only); omega)); conv => whnf) | ((with_reducible refine And.intro ?hh ?_); (case hh => ((try dsimp only); omega)); conv => whnf) | ((with_reducible refine And.intro ?hh ?_); (case hh => ((conv => whnf); (repeat' (first | exact True.intro | rfl | refine And.intro ?_ ?_)); done)); conv => whnf) | fail))
            exact ⟨(i + 1, x), [], by dsimp only; omega, ⟨by dsimp only; omega, fun _ => k3, by rw [decide_eq_false (by omega : ¬ i + 1 = 0)]; exact k4⟩, ⟨rfl, rfl, (by (repeat' (first | exact True.intro | rfl | refine And.intro ?_ ?_))), (by (repeat' (first | exact True.intro | rfl | refine And.intro ?_ ?_))), (by (repeat' (first | exact True.intro | rfl | refine And.intro ?_ ?_))), (by (repeat' (first | exact True.intro | exact Or.inl rfl | refine And.intro ?_ ?_ | refine Or.inr ⟨_, rfl, ?_⟩ | exact SubQ.same (n := 1000) (Y := []) (fun _ _ _ => rfl) (by first | exact True.intro | exact ltB_all rfl | exact ltB_ofLb (by first | exact bare0_ints | assumption | (intro v hv; (repeat (rcases List.mem_cons.1 hv with rfl | hv; exact rfl)); cases hv)) | exact ltB_loop rfl rfl | exact hMap _ | exact hMap2 _ | exact grB_lt (by first | exact bare0_ints | assumption | (intro v hv; (repeat (rcases List.mem_cons.1 hv with rfl | hv; exact rfl)); cases hv)) _ | exact ltB_mapB | assumption) (avB_nil _) rfl | exact SubQ.ofL (by first | rfl | simp) (by first | exact bare0_ints | assumption | (intro v hv; (repeat (rcases List.mem_cons.1 hv with rfl | hv; exact rfl)); cases hv)) (by first | exact Or.inl rfl | exact Or.inr rfl) | exact SubQ.fin (by (conv => whnf); (repeat' (first | exact True.intro | rfl | refine And.intro ?_ ?_)); done) (fun h => h) (by first | exact Or.inl rfl | exact Or.inr rfl)))), rfl, rfl⟩⟩
        | false =>
          as_aux_lemma =>
          rw [hlq] at kL
          have hO1 : OkH x := hOx
          have hJ1 : hiQt t a b l = hiGo t a b false (hiIn t e x (l.drop (i + 1))) (l.drop (i + 1)) := by rw [j3]; show hiGo t a b false (hiIn t e (if (decide (i = 0) || ltQ (termI t a b e) x) = true then termI t a b e else x) _) _ = _; rw [eT, hlq, decide_eq_false hi0]; rfl
          (conv => whnf); (repeat' (first | ((with_reducible refine ifb_mk (fun hc => ?_) (fun hc => ?_)) <;> ((try simp only [decide_eq_true_eq, decide_eq_false_iff_not, Bool.not_eq_true', Bool.not_eq_false', Int.not_lt, Int.not_le, ne_eq, Decidable.not_not, beq_iff_eq, List.cons.injEq, and_true] at hc); (first | (exfalso; omega) | conv => whnf))) | ((with_reducible refine And.intro True.intro ?_); conv => whnf) | ((with_reducible refine grd_getN ?_); refine som_mk (a := ?_) ?hh ?_; (case hh => exact entGetN hx); conv => whnf) | ((with_reducible refine CallX.all ?_); refine CallW.of_ok (kT _) ?_; conv => whnf) | ((with_reducible refine CallX.all ?_); refine CallW.of_ok ((kB _).1) ?_; conv => whnf) | ((with_reducible refine CallX.all ?_); refine CallW.of_ok (kL _) ?_; conv => whnf) | ((with_reducible refine And.intro ?hh ?_); (case hh => (unfold InR; (try dsimp only); omega)); conv => whnf) | ((with_reducible refine And.intro ?hh ?_); (case hh => ((try dsimp only); omega)); conv => whnf) | ((with_reducible refine And.intro ?hh ?_); (case hh => ((conv => whnf); (repeat' (first | exact True.intro | rfl | refine And.intro ?_ ?_)); done)); conv => whnf) | fail))
          all_goals (first | (exfalso; omega) | skip)
          refine WpR.loopD (ι := Nat × (Int × Int)) [] [1, 2, 4, 5, 6, 7, 8, 9, 10] [5] [] 8 (fun p => [(11, .int .i64 p.1)]) (fun p => [(5, .cells (ofL [.int .i64 p.2.1, .int .i64 p.2.2] 0) true none)]) (fun p => l.length - p.1) (fun p => i < p.1 ∧ p.1 ≤ l.length ∧ OkH p.2 ∧ hiQt t a b l = hiGo t a b false (hiIn t e p.2 (l.drop p.1)) (l.drop (i + 1))) ?_ ((i + 1, x)) (⟨by dsimp only; omega, by dsimp only; omega, hO1, hJ1⟩) [] ⟨rfl, rfl, (by (repeat' (first | exact True.intro | rfl | refine And.intro ?_ ?_))), (by (repeat' (first | exact True.intro | rfl | refine And.intro ?_ ?_))), (by (repeat' (first | exact True.intro | rfl | refine And.intro ?_ ?_))), (by (repeat' (first | exact True.intro | exact Or.inl rfl | refine And.intro ?_ ?_ | refine Or.inr ⟨_, rfl, ?_⟩ | exact SubQ.same (n := 1000) (Y := []) (fun _ _ _ => rfl) (by first | exact True.intro | exact ltB_all rfl | exact ltB_ofLb (by first | exact bare0_ints | assumption | (intro v hv; (repeat (rcases List.mem_cons.1 hv with rfl | hv; exact rfl)); cases hv)) | exact ltB_loop rfl rfl | exact hMap _ | exact hMap2 _ | exact grB_lt (by first | exact bare0_ints | assumption | (intro v hv; (repeat (rcases List.mem_cons.1 hv with rfl | hv; exact rfl)); cases hv)) _ | exact ltB_mapB | assumption) (avB_nil _) rfl | exact SubQ.ofL (by first | rfl | simp) (by first | exact bare0_ints | assumption | (intro v hv; (repeat (rcases List.mem_cons.1 hv with rfl | hv; exact rfl)); cases hv)) (by first | exact Or.inl rfl | exact Or.inr rfl) | exact SubQ.fin (by (conv => whnf); (repeat' (first | exact True.intro | rfl | refine And.intro ?_ ?_)); done) (fun h => h) (by first | exact Or.inl rfl | exact Or.inr rfl)))), rfl, rfl⟩ rfl rfl rfl (fun _ => rfl) (by (repeat' (first | exact True.intro | refine And.intro ?_ ?_ | exact avV_nil _ | rfl))) (by (repeat' (first | exact True.intro | (with_reducible exact avB_nil _) | ((with_reducible refine avB_all ?_); rfl) | ((with_reducible refine avB_ofLb ?_); exact (by first | exact bare0_ints | assumption | (intro v hv; (repeat (rcases List.mem_cons.1 hv with rfl | hv; exact rfl)); cases hv))) | ((with_reducible refine ltB_all ?_); rfl) | ((with_reducible refine ltB_ofLb ?_); exact (by first | exact bare0_ints | assumption | (intro v hv; (repeat (rcases List.mem_cons.1 hv with rfl | hv; exact rfl)); cases hv))) | ((with_reducible refine ltB_loop ?_ ?_) <;> rfl) | (with_reducible exact hMap _) | (with_reducible exact hMap2 _) | (with_reducible exact ltB_mapB) | ((with_reducible refine grB_lt ?_ _); exact (by first | exact bare0_ints | assumption | (intro v hv; (repeat (rcases List.mem_cons.1 hv with rfl | hv; exact rfl)); cases hv))) | (with_reducible assumption) | refine And.intro ?_ ?_ | exact (by first | exact True.intro | exact ltB_all rfl | exact ltB_ofLb (by first | exact bare0_ints | assumption | (intro v hv; (repeat (rcases List.mem_cons.1 hv with rfl | hv; exact rfl)); cases hv)) | exact ltB_loop rfl rfl | exact hMap _ | exact hMap2 _ | exact grB_lt (by first | exact bare0_ints | assumption | (intro v hv; (repeat (rcases List.mem_cons.1 hv with rfl | hv; exact rfl)); cases hv)) _ | exact ltB_mapB | assumption)))) (fun _ _ => (by (repeat' (first | exact True.intro | rfl | refine And.intro ?_ ?_ | exact (by decide) | exact (by first | exact True.intro | exact hMap _ | exact hMap2 _ | exact grB_lt (by first | exact bare0_ints | assumption | (intro v hv; (repeat (rcases List.mem_cons.1 hv with rfl | hv; exact rfl)); cases hv)) _ | exact ltB_all rfl | exact ltB_ofLb (by first | exact bare0_ints | assumption | (intro v hv; (repeat (rcases List.mem_cons.1 hv with rfl | hv; exact rfl)); cases hv)) | exact ltB_loop rfl rfl | exact ltB_mapB | assumption))))) (fun _ _ => (by (repeat' (first | exact True.intro | rfl | refine And.intro ?_ ?_ | exact (by decide) | exact (by first | exact True.intro | exact hMap _ | exact hMap2 _ | exact grB_lt (by first | exact bare0_ints | assumption | (intro v hv; (repeat (rcases List.mem_cons.1 hv with rfl | hv; exact rfl)); cases hv)) _ | exact ltB_all rfl | exact ltB_ofLb (by first | exact bare0_ints | assumption | (intro v hv; (repeat (rcases List.mem_cons.1 hv with rfl | hv; exact rfl)); cases hv)) | exact ltB_loop rfl rfl | exact ltB_mapB | assumption))))) (fun _ _ => (by (repeat' (first | exact True.intro | rfl | refine And.intro ?_ ?_)))) rfl
          rintro ⟨k, x⟩ ⟨k1, k2, k3, k4⟩
          dsimp only at k1 k2 k3 k4
          refine WpR.of_vc ?_
          cases hy : l[k]? with
          | some f =>
            rw [drop_at hy] at k4
            have hklt := (List.getElem?_eq_some_iff.1 hy).1
            have hf := hS.ent _ _ hy
            have hef := hS.inc _ _ _ _ k1 hx hy
            by_cases hcond : t < e.1 ∨ f.1 < t
            · have e3 : hiIn t e x (f :: l.drop (k + 1)) = hiIn t e x (l.drop (k + 1)) := by show hiIn t e (inH t e x f) _ = _; unfold inH; rw [if_pos hcond]
              rw [e3] at k4
              (conv => whnf); (repeat' (first | ((with_reducible refine ifb_mk (fun hc => ?_) (fun hc => ?_)) <;> ((try simp only [decide_eq_true_eq, decide_eq_false_iff_not, Bool.not_eq_true', Bool.not_eq_false', Int.not_lt, Int.not_le, ne_eq, Decidable.not_not, beq_iff_eq, List.cons.injEq, and_true] at hc); (first | (exfalso; omega) | conv => whnf))) | ((with_reducible refine And.intro True.intro ?_); conv => whnf) | ((with_reducible refine grd_getN ?_); refine som_mk (a := ?_) ?hh ?_; (case hh => exact entGetN hy); conv => whnf) | ((with_reducible refine And.intro ?hh ?_); (case hh => (unfold InR; (try dsimp only); omega)); conv => whnf) | ((with_reducible refine And.intro ?hh ?_); (case hh => ((try dsimp only); omega)); conv => whnf) | ((with_reducible refine And.intro ?hh ?_); (case hh => ((conv => whnf); (repeat' (first | exact True.intro | rfl | refine And.intro ?_ ?_)); done)); conv => whnf) | fail))
              all_goals (first | (exfalso; omega) | exact ⟨(k + 1, x), [], by dsimp only; omega, ⟨by dsimp only; omega, by dsimp only; omega, k3, k4⟩, ⟨rfl, rfl, (by (repeat' (first | exact True.intro | rfl | refine And.intro ?_ ?_))), (by (repeat' (first | exact True.intro | rfl | refine And.intro ?_ ?_))), (by (repeat' (first | exact True.intro | rfl | refine And.intro ?_ ?_))), (by (repeat' (first | exact True.intro | exact Or.inl rfl | refine And.intro ?_ ?_ | refine Or.inr ⟨_, rfl, ?_⟩ | exact SubQ.same (n := 1000) (Y := []) (fun _ _ _ => rfl) (by first | exact True.intro | exact ltB_all rfl | exact ltB_ofLb (by first | exact bare0_ints | assumption | (intro v hv; (repeat (rcases List.mem_cons.1 hv with rfl | hv; exact rfl)); cases hv)) | exact ltB_loop rfl rfl | exact hMap _ | exact hMap2 _ | exact grB_lt (by first | exact bare0_ints | assumption | (intro v hv; (repeat (rcases List.mem_cons.1 hv with rfl | hv; exact rfl)); cases hv)) _ | exact ltB_mapB | assumption) (avB_nil _) rfl | exact SubQ.ofL (by first | rfl | simp) (by first | exact bare0_ints | assumption | (intro v hv; (repeat (rcases List.mem_cons.1 hv with rfl | hv; exact rfl)); cases hv)) (by first | exact Or.inl rfl | exact Or.inr rfl) | exact SubQ.fin (by (conv => whnf); (repeat' (first | exact True.intro | rfl | refine And.intro ?_ ?_)); done) (fun h => h) (by first | exact Or.inl rfl | exact Or.inr rfl)))), rfl, rfl⟩⟩)
            · have hto := termP_ok ht he hf hef (by omega) (by omega)
              obtain ⟨q1, q2, q3⟩ := hto
              have kF := fun h' => refFraction_ok h' (e.2.2 * (f.1 - t) + f.2.2 * (t - e.1)) (f.1 - e.1) (by unfold InQ; omega) (by omega)
              have kL := fun h' => refLess_ok h' (termP t e f).1 (termP t e f).2 x.1 x.2 (InR_mul6 q3.n k3.d) (InR_mul6 k3.n q3.d)
              have e3 : hiIn t e x (f :: l.drop (k + 1)) = hiIn t e (if ltQ (termP t e f) x = true then termP t e f else x) (l.drop (k + 1)) := by show hiIn t e (inH t e x f) _ = _; unfold inH; rw [if_neg hcond]
              rw [e3] at k4
              change ∀ h', CallOk Try.prog 53 _ h' (qV (termP t e f)) h' at kF
              change ∀ h', CallOk Try.prog 46 _ h' (.bool (ltQ (termP t e f) x)) h' at kL
              generalize termP t e f = T at *
              cases hlt : ltQ T x with
              | true =>
                rw [hlt] at kL k4
                (conv => whnf); (repeat' (first | ((with_reducible refine ifb_mk (fun hc => ?_) (fun hc => ?_)) <;> ((try simp only [decide_eq_true_eq, decide_eq_false_iff_not, Bool.not_eq_true', Bool.not_eq_false', Int.not_lt, Int.not_le, ne_eq, Decidable.not_not, beq_iff_eq, List.cons.injEq, and_true] at hc); (first | (exfalso; omega) | conv => whnf))) | ((with_reducible refine And.intro True.intro ?_); conv => whnf) | ((with_reducible refine grd_getN ?_); refine som_mk (a := ?_) ?hh ?_; (case hh => exact entGetN hy); conv => whnf) | ((with_reducible refine CallX.all ?_); refine CallW.of_ok (kF _) ?_; conv => whnf) | ((with_reducible refine CallX.all ?_); refine CallW.of_ok (kL _) ?_; conv => whnf) | ((with_reducible refine And.intro ?hh ?_); (case hh => (unfold InR; (try dsimp only); omega)); conv => whnf) | ((with_reducible refine And.intro ?hh ?_); (case hh => ((try dsimp only); omega)); conv => whnf) | ((with_reducible refine And.intro ?hh ?_); (case hh => ((conv => whnf); (repeat' (first | exact True.intro | rfl | refine And.intro ?_ ?_)); done)); conv => whnf) | fail))
                all_goals (first | (exfalso; omega) | exact ⟨(k + 1, T), [], by dsimp only; omega, ⟨by dsimp only; omega, by dsimp only; omega, q3, k4⟩, ⟨rfl, rfl, (by (repeat' (first | exact True.intro | rfl | refine And.intro ?_ ?_))), (by (repeat' (first | exact True.intro | rfl | refine And.intro ?_ ?_))), (by (repeat' (first | exact True.intro | rfl | refine And.intro ?_ ?_))), (by (repeat' (first | exact True.intro | exact Or.inl rfl | refine And.intro ?_ ?_ | refine Or.inr ⟨_, rfl, ?_⟩ | exact SubQ.same (n := 1000) (Y := []) (fun _ _ _ => rfl) (by first | exact True.intro | exact ltB_all rfl | exact ltB_ofLb (by first | exact bare0_ints | assumption | (intro v hv; (repeat (rcases List.mem_cons.1 hv with rfl | hv; exact rfl)); cases hv)) | exact ltB_loop rfl rfl | exact hMap _ | exact hMap2 _ | exact grB_lt (by first | exact bare0_ints | assumption | (intro v hv; (repeat (rcases List.mem_cons.1 hv with rfl | hv; exact rfl)); cases hv)) _ | exact ltB_mapB | assumption) (avB_nil _) rfl | exact SubQ.ofL (by first | rfl | simp) (by first | exact bare0_ints | assumption | (intro v hv; (repeat (rcases List.mem_cons.1 hv with rfl | hv; exact rfl)); cases hv)) (by first | exact Or.inl rfl | exact Or.inr rfl) | exact SubQ.fin (by (conv => whnf); (repeat' (first | exact True.intro | rfl | refine And.intro ?_ ?_)); done) (fun h => h) (by first | exact Or.inl rfl | exact Or.inr rfl)))), rfl, rfl⟩⟩)
              | false =>
                rw [hlt] at kL k4
                (conv => whnf); (repeat' (first | ((with_reducible refine ifb_mk (fun hc => ?_) (fun hc => ?_)) <;> ((try simp only [decide_eq_true_eq, decide_eq_false_iff_not, Bool.not_eq_true', Bool.not_eq_false', Int.not_lt, Int.not_le, ne_eq, Decidable.not_not, beq_iff_eq, List.cons.injEq, and_true] at hc); (first | (exfalso; omega) | conv => whnf))) | ((with_reducible refine And.intro True.intro ?_); conv => whnf) | ((with_reducible refine grd_getN ?_); refine som_mk (a := ?_) ?hh ?_; (case hh => exact entGetN hy); conv => whnf) | ((with_reducible refine CallX.all ?_); refine CallW.of_ok (kF _) ?_; conv => whnf) | ((with_reducible refine CallX.all ?_); refine CallW.of_ok (kL _) ?_; conv => whnf) | ((with_reducible refine And.intro ?hh ?_); (case hh => (unfold InR; (try dsimp only); omega)); conv => whnf) | ((with_reducible refine And.intro ?hh ?_); (case hh => ((try dsimp only); omega)); conv => whnf) | ((with_reducible refine And.intro ?hh ?_); (case hh => ((conv => whnf); (repeat' (first | exact True.intro | rfl | refine And.intro ?_ ?_)); done)); conv => whnf) | fail))
                all_goals (first | (exfalso; omega) | exact ⟨(k + 1, x), [], by dsimp only; omega, ⟨by dsimp only; omega, by dsimp only; omega, k3, k4⟩, ⟨rfl, rfl, (by (repeat' (first | exact True.intro | rfl | refine And.intro ?_ ?_))), (by (repeat' (first | exact True.intro | rfl | refine And.intro ?_ ?_))), (by (repeat' (first | exact True.intro | rfl | refine And.intro ?_ ?_))), (by (repeat' (first | exact True.intro | exact Or.inl rfl | refine And.intro ?_ ?_ | refine Or.inr ⟨_, rfl, ?_⟩ | exact SubQ.same (n := 1000) (Y := []) (fun _ _ _ => rfl) (by first | exact True.intro | exact ltB_all rfl | exact ltB_ofLb (by first | exact bare0_ints | assumption | (intro v hv; (repeat (rcases List.mem_cons.1 hv with rfl | hv; exact rfl)); cases hv)) | exact ltB_loop rfl rfl | exact hMap _ | exact hMap2 _ | exact grB_lt (by first | exact bare0_ints | assumption | (intro v hv; (repeat (rcases List.mem_cons.1 hv with rfl | hv; exact rfl)); cases hv)) _ | exact ltB_mapB | assumption) (avB_nil _) rfl | exact SubQ.ofL (by first | rfl | simp) (by first | exact bare0_ints | assumption | (intro v hv; (repeat (rcases List.mem_cons.1 hv with rfl | hv; exact rfl)); cases hv)) (by first | exact Or.inl rfl | exact Or.inr rfl) | exact SubQ.fin (by (conv => whnf); (repeat' (first | exact True.intro | rfl | refine And.intro ?_ ?_)); done) (fun h => h) (by first | exact Or.inl rfl | exact Or.inr rfl)))), rfl, rfl⟩⟩)
          | none =>
            have hlen : l.length ≤ k := by simpa using hy
            rw [List.drop_eq_nil_of_le hlen] at k4
            (conv => whnf); (repeat' (first | ((with_reducible refine ifb_mk (fun hc => ?_) (fun hc => ?_)) <;> ((try simp only [decide_eq_true_eq, decide_eq_false_iff_not, Bool.not_eq_true', Bool.not_eq_false', Int.not_lt, Int.not_le, ne_eq, Decidable.not_not, beq_iff_eq, List.cons.injEq, and_true] at hc); (first | (exfalso; omega) | conv => whnf))) | ((with_reducible refine And.intro True.intro ?_); conv => whnf) | ((with_reducible refine And.intro ?hh ?_); (case hh => (unfold InR; (try dsimp only); omega)); conv => whnf) | ((with_reducible refine And.intro ?hh ?_); (case hh => ((try dsimp only); omega)); conv => whnf) | ((with_reducible refine And.intro ?hh ?_); (case hh => ((conv => whnf); (repeat' (first | exact True.intro | rfl | refine And.intro ?_ ?_)); done)); conv => whnf) | fail))
            exact ⟨(i + 1, x), [], by dsimp only; omega, ⟨by dsimp only; omega, fun _ => k3, by rw [decide_eq_false (by omega : ¬ i + 1 = 0)]; exact k4⟩, ⟨rfl, rfl, (by (repeat' (first | exact True.intro | rfl | refine And.intro ?_ ?_))), (by (repeat' (first | exact True.intro | rfl | refine And.intro ?_ ?_))), (by (repeat' (first | exact True.intro | rfl | refine And.intro ?_ ?_))), (by (repeat' (first | exact True.intro | exact Or.inl rfl | refine And.intro ?_ ?_ | refine Or.inr ⟨_, rfl, ?_⟩ | exact SubQ.same (n := 1000) (Y := []) (fun _ _ _ => rfl) (by first | exact True.intro | exact ltB_all rfl | exact ltB_ofLb (by first | exact bare0_ints | assumption | (intro v hv; (repeat (rcases List.mem_cons.1 hv with rfl | hv; exact rfl)); cases hv)) | exact ltB_loop rfl rfl | exact hMap _ | exact hMap2 _ | exact grB_lt (by first | exact bare0_ints | assumption | (intro v hv; (repeat (rcases List.mem_cons.1 hv with rfl | hv; exact rfl)); cases hv)) _ | exact ltB_mapB | assumption) (avB_nil _) rfl | exact SubQ.ofL (by first | rfl | simp) (by first | exact bare0_ints | assumption | (intro v hv; (repeat (rcases List.mem_cons.1 hv with rfl | hv; exact rfl)); cases hv)) (by first | exact Or.inl rfl | exact Or.inr rfl) | exact SubQ.fin (by (conv => whnf); (repeat' (first | exact True.intro | rfl | refine And.intro ?_ ?_)); done) (fun h => h) (by first | exact Or.inl rfl | exact Or.inr rfl)))), rfl, rfl⟩⟩
  | none =>
    have hlen : l.length ≤ i := by simpa using hx
    rw [List.drop_eq_nil_of_le hlen] at j3
    (conv => whnf); (repeat' (first | ((with_reducible refine ifb_mk (fun hc => ?_) (fun hc => ?_)) <;> ((try simp only [decide_eq_true_eq, decide_eq_false_iff_not, Bool.not_eq_true', Bool.not_eq_false', Int.not_lt, Int.not_le, ne_eq, Decidable.not_not, beq_iff_eq, List.cons.injEq, and_true] at hc); (first | (exfalso; omega) | conv => whnf))) | ((with_reducible refine And.intro True.intro ?_); conv => whnf) | ((with_reducible refine And.intro ?hh ?_); (case hh => (unfold InR; (try dsimp only); omega)); conv => whnf) | ((with_reducible refine And.intro ?hh ?_); (case hh => ((try dsimp only); omega)); conv => whnf) | ((with_reducible refine And.intro ?hh ?_); (case hh => ((conv => whnf); (repeat' (first | exact True.intro | rfl | refine And.intro ?_ ?_)); done)); conv => whnf) | fail))
    have e : hiQt t a b l = x := j3
    (refine ⟨[], ?_, rfl, rfl, trivial, (by (repeat' (first | exact True.intro | rfl | refine And.intro ?_ ?_)))⟩; simp only [renV, renL]; rw [e])
end Go.Proofs.D

namespace Go.Proofs.D
open Go.As
set_option maxRecDepth 20000
set_option linter.unusedVariables false
set_option linter.unusedSimpArgs false

/-! ### What the program's farthest motion reaches -/

def sgn (s : Int) (x : Rat) : Rat := if s = 1 then x else -x
theorem sgn_tq (s : Int) (x : Int × Int) : tq s x = sgn s (rq x) := rfl
theorem sgn_add (s : Int) (x y : Rat) : sgn s (x + y) = sgn s x + sgn s y := by unfold sgn; split <;> grind
theorem sgn_mul (s : Int) (x y : Rat) : sgn s (x * y) = sgn s x * y := by unfold sgn; split <;> grind
def upS (s : Int) (e : E) : Rat := if s = 1 then (e.2.2 : Rat) else -(e.2.1 : Rat)
def dnS (s : Int) (e : E) : Rat := if s = 1 then (e.2.1 : Rat) else -(e.2.2 : Rat)
def ptS (s : Int) (e : E) : Rat × Rat := ((e.1 : Rat), upS s e)
theorem upS_eq (s : Int) (e : E) : upS s e = sgn s (sideE s e : Rat) := by unfold upS sgn sideE; split <;> rfl

theorem start_rat {s : Int} {r : Int × Int} {e : E} (hr : 0 < r.2) : tq s (startQ s r e) = upS s e - tq s r * (e.1 : Rat) := by
  have hd : 0 < 1 * r.2 := by omega
  have h := rq_fr_mul (n := sideE s e * r.2 + r.1 * (-e.1) * 1) hd
  have hr' := rq_mul hr
  have hne := castNe hr
  have h2 : rq (startQ s r e) = (sideE s e : Rat) - rq r * (e.1 : Rat) := by
    apply cancelR hne
    unfold startQ
    rw [Int.one_mul] at h ⊢
    rw [h, Int.mul_one, Rat.intCast_add, Rat.intCast_mul, Rat.intCast_mul, Rat.intCast_neg]
    grind
  rw [sgn_tq, h2, upS_eq, sgn_tq]
  unfold sgn
  split <;> grind

theorem start_pos {s : Int} {r : Int × Int} {e : E} (hr : 0 < r.2) : 0 < (startQ s r e).2 := fr_pos (by omega)

theorem foldB_spec {s : Int} : ∀ (L : List (Int × Int)) (a : Int × Int), 0 < a.2 → (∀ x ∈ L, 0 < x.2) → ∃ f, L.foldl (stepB (tighterF s)) (some a) = some f ∧ (f = a ∨ f ∈ L) ∧ tq s f ≤ tq s a ∧ (∀ x ∈ L, tq s f ≤ tq s x)
  | [], a, _, _ => ⟨a, rfl, .inl rfl, Rat.le_refl, fun x hx => by cases hx⟩
  | y :: L, a, ha, hL => by
    have hy := hL y (List.mem_cons_self ..)
    have htt := tighter_tq (s := s) hy ha
    by_cases hlt : tq s y < tq s a
    · obtain ⟨f, h1, h2, h3, h4⟩ := foldB_spec L y hy (fun x hx => hL x (List.mem_cons_of_mem _ hx))
      refine ⟨f, ?_, ?_, Rat.le_trans h3 (Rat.le_of_lt hlt), fun x hx => ?_⟩
      · rw [List.foldl_cons, stepB_true (by rw [htt]; exact decide_eq_true hlt)]; exact h1
      · rcases h2 with rfl | h2
        · exact .inr (List.mem_cons_self ..)
        · exact .inr (List.mem_cons_of_mem _ h2)
      · rcases List.mem_cons.1 hx with rfl | hx
        · exact h3
        · exact h4 x hx
    · obtain ⟨f, h1, h2, h3, h4⟩ := foldB_spec L a ha (fun x hx => hL x (List.mem_cons_of_mem _ hx))
      refine ⟨f, ?_, ?_, h3, fun x hx => ?_⟩
      · rw [List.foldl_cons, stepB_false (by rw [htt]; exact decide_eq_false hlt)]; exact h1
      · rcases h2 with rfl | h2
        · exact .inl rfl
        · exact .inr (List.mem_cons_of_mem _ h2)
      · rcases List.mem_cons.1 hx with rfl | hx
        · exact Rat.le_trans h3 (Rat.not_lt.1 hlt)
        · exact h4 x hx

structure OutP (s : Int) (l : List E) (r q : Int × Int) : Prop where
  pos : 0 < q.2
  le : ∀ e ∈ l, tq s q ≤ upS s e - tq s r * (e.1 : Rat)
  ex : ∃ e ∈ l, tq s q = upS s e - tq s r * (e.1 : Rat)

theorem outQ_spec {s : Int} {l : List E} {r : Int × Int} (hr : 0 < r.2) (hl : 0 < l.length) : OutP s l r (outQ s r l) := by
  cases l with
  | nil => simp at hl
  | cons e l =>
    have hpos : ∀ x ∈ l.map (startQ s r), 0 < x.2 := fun x hx => by obtain ⟨f, _, rfl⟩ := List.mem_map.1 hx; exact start_pos hr
    obtain ⟨f, h1, h2, h3, h4⟩ := foldB_spec (s := s) (l.map (startQ s r)) (startQ s r e) (start_pos hr) hpos
    have hout : outQ s r (e :: l) = f := by
      show ((l.map (startQ s r)).foldl (stepB (tighterF s)) (some (startQ s r e))).getD (0, 0) = f
      rw [h1]; rfl
    rw [hout]
    refine ⟨?_, fun g hg => ?_, ?_⟩
    · rcases h2 with rfl | h2
      · exact start_pos hr
      · exact hpos f h2
    · rw [← start_rat hr]
      rcases List.mem_cons.1 hg with rfl | hg
      · exact h3
      · exact h4 _ (List.mem_map.2 ⟨g, hg, rfl⟩)
    · rcases h2 with rfl | h2
      · exact ⟨e, List.mem_cons_self .., start_rat hr⟩
      · obtain ⟨g, hg, rfl⟩ := List.mem_map.1 h2
        exact ⟨g, List.mem_cons_of_mem _ hg, start_rat hr⟩

theorem plc_rat {m : Mo} {t : Int} (h1 : 0 < m.1.2) (h2 : 0 < m.2.2) : rq (plcQ m t) = rq m.1 + rq m.2 * (t : Rat) := by
  have hd := Int.mul_pos h1 h2
  have h := rq_fr_mul (n := m.1.1 * m.2.2 + m.2.1 * t * m.1.2) hd
  have e1 := rq_mul h1
  have e2 := rq_mul h2
  apply cancelR (castNe hd)
  unfold plcQ
  rw [h, Rat.intCast_add, Rat.intCast_mul, Rat.intCast_mul, Rat.intCast_mul, Rat.intCast_mul, ← e1, ← e2]
  grind

def valM (s : Int) (m : Mo) (t : Int) : Rat := tq s (plcQ m t)
theorem valM_eq {s : Int} {m : Mo} {t : Int} (h1 : 0 < m.1.2) (h2 : 0 < m.2.2) : valM s m t = tq s m.1 + tq s m.2 * (t : Rat) := by
  unfold valM
  rw [sgn_tq, plc_rat h1 h2, sgn_add, sgn_mul]; rfl

structure CandP (s : Int) (l : List E) (m : Mo) : Prop where
  rp : 0 < m.2.2
  out : OutP s l m.2 m.1

theorem CandP.le {s : Int} {l : List E} {m : Mo} (h : CandP s l m) (t : Int) : LeF (l.map (ptS s)) (t : Rat) (tq s m.2) (valM s m t) := by
  intro p hp
  obtain ⟨e, he, rfl⟩ := List.mem_map.1 hp
  rw [valM_eq h.out.pos h.rp]
  have := h.out.le e he
  unfold ptS
  grind
theorem CandP.ge {s : Int} {l : List E} {m : Mo} (h : CandP s l m) (t : Int) (z : Rat) (hz : LeF (l.map (ptS s)) (t : Rat) (tq s m.2) z) : z ≤ valM s m t := by
  obtain ⟨e, he, h1⟩ := h.out.ex
  have := hz (ptS s e) (List.mem_map.2 ⟨e, he, rfl⟩)
  rw [valM_eq h.out.pos h.rp, h1]
  unfold ptS at this
  grind

theorem betM_tq {s t : Int} {m n : Mo} (hm : 0 < (plcQ m t).2) (hn : 0 < (plcQ n t).2) : betM s t m n = decide (valM s n t < valM s m t) := tighter_tq hn hm

theorem plc_pos {m : Mo} {t : Int} (h1 : 0 < m.1.2) (h2 : 0 < m.2.2) : 0 < (plcQ m t).2 := fr_pos (Int.mul_pos h1 h2)

structure FarP (s t : Int) (a b : Int × Int) (l : List E) (x : Mo) (L : List (Int × Int)) (g : Mo) : Prop where
  ge : valM s x t ≤ valM s g t
  all : ∀ p ∈ L, ∀ c, cornF s a b l p = some c → valM s c t ≤ valM s g t
  src : g = x ∨ ∃ p ∈ L, cornF s a b l p = some g

theorem farP_spec {s t : Int} {a b : Int × Int} {l : List E} : ∀ (L : List (Int × Int)) (x : Mo), 0 < (plcQ x t).2 → (∀ p ∈ L, ∀ c, cornF s a b l p = some c → 0 < (plcQ c t).2) → FarP s t a b l x L (farP s t a b l x L)
  | [], x, _, _ => ⟨Rat.le_refl, fun p hp => (by cases hp), .inl rfl⟩
  | p :: L, x, hx, hL => by
    have hL' : ∀ q ∈ L, ∀ c, cornF s a b l q = some c → 0 < (plcQ c t).2 := fun q hq => hL q (List.mem_cons_of_mem _ hq)
    have hdef : farP s t a b l x (p :: L) = farP s t a b l (stepM s t a b l x p) L := rfl
    rw [hdef]
    cases hc : cornF s a b l p with
    | none =>
      have hst : stepM s t a b l x p = x := by unfold stepM; rw [hc]
      rw [hst]
      obtain ⟨h1, h2, h3⟩ := farP_spec L x hx hL'
      refine ⟨h1, fun q hq c hqc => ?_, ?_⟩
      · rcases List.mem_cons.1 hq with rfl | hq
        · rw [hc] at hqc; cases hqc
        · exact h2 q hq c hqc
      · rcases h3 with h3 | ⟨q, hq, h3⟩
        · exact .inl h3
        · exact .inr ⟨q, List.mem_cons_of_mem _ hq, h3⟩
    | some c =>
      have hcp := hL p (List.mem_cons_self ..) c hc
      by_cases hlt : valM s x t < valM s c t
      · have hst : stepM s t a b l x p = c := by unfold stepM; rw [hc]; dsimp only; rw [betM_tq hcp hx, if_pos (decide_eq_true hlt)]
        rw [hst]
        obtain ⟨h1, h2, h3⟩ := farP_spec L c hcp hL'
        refine ⟨Rat.le_trans (Rat.le_of_lt hlt) h1, fun q hq c' hqc => ?_, ?_⟩
        · rcases List.mem_cons.1 hq with rfl | hq
          · rw [hc] at hqc; cases hqc; exact h1
          · exact h2 q hq c' hqc
        · rcases h3 with h3 | ⟨q, hq, h3⟩
          · exact .inr ⟨p, List.mem_cons_self .., by rw [h3]; exact hc⟩
          · exact .inr ⟨q, List.mem_cons_of_mem _ hq, h3⟩
      · have hst : stepM s t a b l x p = x := by unfold stepM; rw [hc]; dsimp only; rw [betM_tq hcp hx, if_neg (by simpa using hlt)]
        rw [hst]
        obtain ⟨h1, h2, h3⟩ := farP_spec L x hx hL'
        refine ⟨h1, fun q hq c' hqc => ?_, ?_⟩
        · rcases List.mem_cons.1 hq with rfl | hq
          · rw [hc] at hqc; cases hqc; exact Rat.le_trans (Rat.not_lt.1 hlt) h1
          · exact h2 q hq c' hqc
        · rcases h3 with h3 | ⟨q, hq, h3⟩
          · exact .inl h3
          · exact .inr ⟨q, List.mem_cons_of_mem _ hq, h3⟩

/-- The ends of the rate, to a side. -/
def loS (s : Int) (a b : Int × Int) : Rat := if s = 1 then rq a else -rq b
def hiS (s : Int) (a b : Int × Int) : Rat := if s = 1 then rq b else -rq a

theorem cross_rat {s : Int} {e f : E} (h : e.1 < f.1) : tq s (crossQ s e f) * ((f.1 : Rat) - (e.1 : Rat)) = upS s f - upS s e := by
  have hd : 0 < f.1 - e.1 := by omega
  have h1 := rq_fr_mul (n := sideE s f - sideE s e) hd
  rw [Rat.intCast_sub, Rat.intCast_sub] at h1
  rw [upS_eq, upS_eq, sgn_tq]
  unfold crossQ sgn
  split <;> grind

structure FarOk (s t : Int) (a b : Int × Int) (l : List E) (g : Mo) : Prop where
  cand : CandP s l g
  rate : loS s a b ≤ tq s g.2 ∧ tq s g.2 ≤ hiS s a b
  top : IsTop (l.map (ptS s)) (t : Rat) (loS s a b) (hiS s a b) (valM s g t)

theorem cand_of {s : Int} {l : List E} {r : Int × Int} (hr : 0 < r.2) (hl : 0 < l.length) : CandP s l (outM s l r) := ⟨hr, outQ_spec hr hl⟩

theorem farM_ok {lo hi : Int} {l : List E} (hS : OkS lo hi l) {s t : Int} (hs : s = 0 ∨ s = 1) {a b : Int × Int} (ha : 0 < a.2) (hb : 0 < b.2) (hab : rq a ≤ rq b) : FarOk s t a b l (farM s t a b l) := by
  have hl := hS.one
  have cA := cand_of (s := s) (l := l) ha hl
  have cB := cand_of (s := s) (l := l) hb hl
  have hcorn : ∀ p ∈ pairsL l.length, ∀ c, cornF s a b l p = some c → CandP s l c ∧ rq a < rq c.2 ∧ rq c.2 < rq b := by
    intro p hp c hc
    rcases pairsL_mem.1 hp with rfl | ⟨i, j, h1, h2, rfl⟩
    · unfold cornF at hc; rw [if_pos rfl] at hc; cases hc
    · have hgi : l[i]? = some l[i] := List.getElem?_eq_getElem _
      have hgj : l[j]? = some l[j] := List.getElem?_eq_getElem _
      have hlt := hS.inc _ _ _ _ h1 hgi hgj
      have hcp : 0 < (crossQ s l[i] l[j]).2 := fr_pos (by omega)
      rw [cornF_two hgi hgj] at hc
      split at hc
      · rename_i hcond
        cases hc
        exact ⟨cand_of hcp hl, (rq_lt ha hcp).2 hcond.1, (rq_lt hcp hb).2 hcond.2⟩
      · cases hc
  have pC : ∀ {c : Mo}, CandP s l c → 0 < (plcQ c t).2 := fun h => plc_pos h.out.pos h.rp
  obtain ⟨x0, hx0⟩ : ∃ x, x = (if betM s t (outM s l b) (outM s l a) then outM s l b else outM s l a) := ⟨_, rfl⟩
  have hfar : farM s t a b l = farP s t a b l x0 (pairsL l.length) := by unfold farM; rw [hx0]
  have hb0 := betM_tq (s := s) (pC cB) (pC cA)
  have hX : (x0 = outM s l a ∨ x0 = outM s l b) ∧ valM s (outM s l a) t ≤ valM s x0 t ∧ valM s (outM s l b) t ≤ valM s x0 t := by
    rw [hb0] at hx0
    by_cases hlt : valM s (outM s l a) t < valM s (outM s l b) t
    · rw [if_pos (decide_eq_true hlt)] at hx0; rw [hx0]; exact ⟨.inr rfl, Rat.le_of_lt hlt, Rat.le_refl⟩
    · rw [if_neg (by simpa using hlt)] at hx0; rw [hx0]; exact ⟨.inl rfl, Rat.le_refl, Rat.not_lt.1 hlt⟩
  have hXp : 0 < (plcQ x0 t).2 := by rcases hX.1 with h | h <;> rw [h] <;> exact pC (by assumption)
  obtain ⟨f1, f2, f3⟩ := farP_spec (s := s) (t := t) (a := a) (b := b) (l := l) (pairsL l.length) x0 hXp (fun p hp c hc => pC (hcorn p hp c hc).1)
  rw [← hfar] at f1 f2 f3
  generalize farM s t a b l = g at *
  have hcr : CandP s l g ∧ rq a ≤ rq g.2 ∧ rq g.2 ≤ rq b := by
    rcases f3 with h | ⟨p, hp, h⟩
    · rw [h]
      rcases hX.1 with h | h <;> rw [h]
      · exact ⟨cA, Rat.le_refl, hab⟩
      · exact ⟨cB, hab, Rat.le_refl⟩
    · obtain ⟨h1, h2, h3⟩ := hcorn p hp g h
      exact ⟨h1, Rat.le_of_lt h2, Rat.le_of_lt h3⟩
  obtain ⟨hc, hr1, hr2⟩ := hcr
  have hrate : loS s a b ≤ tq s g.2 ∧ tq s g.2 ≤ hiS s a b := by
    unfold loS hiS tq
    rcases hs with rfl | rfl
    · rw [if_neg (by decide), if_neg (by decide), if_neg (by decide)]; grind
    · rw [if_pos rfl, if_pos rfl, if_pos rfl]; exact ⟨hr1, hr2⟩
  refine ⟨hc, hrate, dual1 hrate.1 hrate.2 (hc.le t), fun z hz => ?_⟩
  have hlh : loS s a b ≤ hiS s a b := Rat.le_trans hrate.1 hrate.2
  obtain ⟨v, hv, hF⟩ := dual2 (l.map (ptS s)) (t : Rat) (loS s a b) (hiS s a b) hlh
  have hz' := hF z hz
  have two : ∀ r : Int × Int, 0 < r.2 → tq s r = v → valM s (outM s l r) t ≤ valM s g t → z ≤ valM s g t := by
    intro r hr hv' hle
    subst hv'
    exact Rat.le_trans ((cand_of (s := s) hr hl).ge t z hz') hle
  have hA := Rat.le_trans hX.2.1 f1
  have hB := Rat.le_trans hX.2.2 f1
  rcases hv with h | h | ⟨p, hp, q, hq, hlt, hvv, h1, h2⟩
  · rcases hs with rfl | rfl
    · exact two b hb (by rw [h]; rfl) hB
    · exact two a ha (by rw [h]; rfl) hA
  · rcases hs with rfl | rfl
    · exact two a ha (by rw [h]; rfl) hA
    · exact two b hb (by rw [h]; rfl) hB
  · obtain ⟨e, he, rfl⟩ := List.mem_map.1 hp
    obtain ⟨f, hf, rfl⟩ := List.mem_map.1 hq
    have hlt' : e.1 < f.1 := Rat.intCast_lt_intCast.1 hlt
    obtain ⟨i, hi', rfl⟩ := List.getElem_of_mem he
    obtain ⟨j, hj', rfl⟩ := List.getElem_of_mem hf
    have hij : i < j := by
      have hpw := hS.pw
      rcases Nat.lt_trichotomy i j with h | rfl | h
      · exact h
      · omega
      · have := List.pairwise_iff_getElem.1 hpw j i hj' hi' h; omega
    have hgi : l[i]? = some l[i] := List.getElem?_eq_getElem _
    have hgj : l[j]? = some l[j] := List.getElem?_eq_getElem _
    have hcp : 0 < (crossQ s l[i] l[j]).2 := fr_pos (by omega)
    have hveq : tq s (crossQ s l[i] l[j]) = v := by
      apply cancelR (c := (l[j].1 : Rat) - (l[i].1 : Rat)) (by have := sub_ps hlt; unfold ptS at this; grind)
      rw [cross_rat hlt']
      exact hvv.symm
    have hin : rq a < rq (crossQ s l[i] l[j]) ∧ rq (crossQ s l[i] l[j]) < rq b := by
      rw [← hveq] at h1 h2
      unfold loS tq at h1
      unfold hiS tq at h2
      rcases hs with rfl | rfl
      · rw [if_neg (by decide), if_neg (by decide)] at h1 h2; grind
      · rw [if_pos rfl, if_pos rfl] at h1 h2; exact ⟨h1, h2⟩
    have hcf := cornF_two (s := s) (a := a) (b := b) hgi hgj
    rw [if_pos ⟨(rq_lt ha hcp).1 hin.1, (rq_lt hcp hb).1 hin.2⟩] at hcf
    exact two _ hcp hveq (f2 _ (pairsL_mem.2 (.inr ⟨i, j, hij, hj', rfl⟩)) _ hcf)
end Go.Proofs.D

namespace Go.Proofs.D
open Go.As
set_option maxRecDepth 20000
set_option linter.unusedVariables false
set_option linter.unusedSimpArgs false

/-! ### Stars turned round; what the program tells is what the reference tells -/

theorem boundsP {lo hi : Int} {l : List E} (hS : OkS lo hi l) : RefP lo hi l (pairsL l.length) (loQ lo hi l, hiQ lo hi l) := by
  have := refRate_P hS
  rwa [refRate_eq hS] at this

theorem turn_len (l : List E) : (turnL l).length = l.length := List.length_map ..
theorem turn_get {l : List E} {i : Nat} {e : E} : (turnL l)[i]? = some e ↔ ∃ f, l[i]? = some f ∧ e = turnE f := by
  unfold turnL
  rw [List.getElem?_map]
  cases l[i]? with
  | none => simp
  | some f => simp [eq_comm]

theorem turn_OkS {lo hi : Int} {l : List E} (hS : OkS lo hi l) : OkS (-hi) (-lo) (turnL l) where
  one := by rw [turn_len]; exact hS.one
  most := by rw [turn_len]; exact hS.most
  rate := by have := hS.rate; omega
  ent i e he := by
    obtain ⟨f, hf, rfl⟩ := turn_get.1 he
    have := hS.ent i f hf
    unfold turnE
    dsimp only
    omega
  inc i j e f hij he hf := by
    obtain ⟨e', he', rfl⟩ := turn_get.1 he
    obtain ⟨f', hf', rfl⟩ := turn_get.1 hf
    exact hS.inc i j e' f' hij he' hf'

def negQ (q : Int × Int) : Int × Int := (-q.1, q.2)
theorem rq_neg (q : Int × Int) : rq (negQ q) = -rq q := by
  unfold rq negQ
  rw [Rat.intCast_neg, Rat.div_def, Rat.div_def, Rat.neg_mul]

theorem bnd_turn {lo hi : Int} {l : List E} {p : Int × Int} (hp : p ∈ pairsL l.length) : bndOf (-hi) (-lo) (turnL l) p = (negQ (bndOf lo hi l p).2, negQ (bndOf lo hi l p).1) := by
  rcases pairsL_mem.1 hp with rfl | ⟨i, j, h1, h2, rfl⟩
  · rfl
  · have hgi : l[i]? = some l[i] := List.getElem?_eq_getElem _
    have hgj : l[j]? = some l[j] := List.getElem?_eq_getElem _
    rw [bndOf_two hgi hgj, bndOf_two (turn_get.2 ⟨_, hgi, rfl⟩) (turn_get.2 ⟨_, hgj, rfl⟩)]
    generalize l[i] = e
    generalize l[j] = f
    unfold bnd2 turnE negQ
    dsimp only
    rw [show -f.2.2 - -e.2.1 = -(f.2.2 - e.2.1) from by omega, show -f.2.1 - -e.2.2 = -(f.2.1 - e.2.2) from by omega, fr_neg, fr_neg]

theorem turn_lo {lo hi : Int} {l : List E} (hS : OkS lo hi l) : rq (loQ (-hi) (-lo) (turnL l)) = -rq (hiQ lo hi l) := by
  obtain ⟨⟨p1, m1, e1⟩, ⟨p2, m2, e2⟩, h3, h4⟩ := boundsP hS
  obtain ⟨⟨q1, n1, d1⟩, ⟨q2, n2, d2⟩, g3, g4⟩ := boundsP (turn_OkS hS)
  rw [turn_len] at n1 n2 g3 g4
  dsimp only at *
  have b1 := h4 q1 n1
  have b2 := g3 p2 m2
  rw [bnd_turn n1] at d1
  rw [bnd_turn m2] at b2
  dsimp only at d1 b2
  rw [rq_neg, ← e2] at b2
  rw [d1, rq_neg] at b2 ⊢
  grind
theorem turn_hi {lo hi : Int} {l : List E} (hS : OkS lo hi l) : rq (hiQ (-hi) (-lo) (turnL l)) = -rq (loQ lo hi l) := by
  obtain ⟨⟨p1, m1, e1⟩, ⟨p2, m2, e2⟩, h3, h4⟩ := boundsP hS
  obtain ⟨⟨q1, n1, d1⟩, ⟨q2, n2, d2⟩, g3, g4⟩ := boundsP (turn_OkS hS)
  rw [turn_len] at n1 n2 g3 g4
  dsimp only at *
  have b1 := h3 q2 n2
  have b2 := g4 p1 m1
  rw [bnd_turn n2] at d2
  rw [bnd_turn m1] at b2
  dsimp only at d2 b2
  rw [rq_neg, ← e1] at b2
  rw [d2, rq_neg] at b2 ⊢
  grind

theorem pt_zero (l : List E) : l.map (ptS 0) = (turnL l).map ptE := by
  unfold turnL
  rw [List.map_map]
  refine List.map_congr_left fun e _ => ?_
  show ((e.1 : Rat), -(e.2.1 : Rat)) = ((e.1 : Rat), ((-e.2.1 : Int) : Rat))
  rw [Rat.intCast_neg]

theorem IsTop.eq {P : List (Rat × Rat)} {t a b x y : Rat} (h : IsTop P t a b x) (g : IsTop P t a b y) : x = y := Rat.le_antisymm (g.top _ h.le) (h.top _ g.le)

theorem hasM_le {lo hi : Int} {l : List E} (hS : OkS lo hi l) (h : hasM lo hi l = true) : rq (loQ lo hi l) ≤ rq (hiQ lo hi l) := by
  have h1 := (loQ_bd hS).2
  have h2 := (hiQ_bd hS).2
  rw [rq_le (by omega) (by omega)]
  unfold hasM at h
  simp at h
  exact h

theorem inH_red {t : Int} {e : E} {x f} (hx : Int.gcd x.1 x.2 = 1) (h : e.1 < f.1) : Int.gcd (inH t e x f).1 (inH t e x f).2 = 1 := by
  unfold inH
  split
  · exact hx
  · split
    · exact fr_gcd (by omega)
    · exact hx
theorem hiIn_red {t : Int} {e : E} : ∀ (L : List E) (x : Int × Int), Int.gcd x.1 x.2 = 1 → (∀ f ∈ L, e.1 < f.1) → Int.gcd (hiIn t e x L).1 (hiIn t e x L).2 = 1
  | [], _, hx, _ => hx
  | f :: L, x, hx, hL => hiIn_red L (inH t e x f) (inH_red hx (hL f (List.mem_cons_self ..))) (fun g hg => hL g (List.mem_cons_of_mem _ hg))
theorem hiGo_red {t : Int} {a b : Int × Int} (ha : 0 < a.2) (hb : 0 < b.2) : ∀ (l : List E) (x : Int × Int) (fst : Bool), (fst = true → 0 < l.length) → (fst = false → Int.gcd x.1 x.2 = 1) → (l.Pairwise fun e f => e.1 < f.1) → Int.gcd (hiGo t a b fst x l).1 (hiGo t a b fst x l).2 = 1
  | [], x, fst, h0, hx, _ => by
    cases fst with
    | true => exact absurd (h0 rfl) (Nat.lt_irrefl 0)
    | false => exact hx rfl
  | e :: l, x, fst, _, hx, hp => by
    rw [List.pairwise_cons] at hp
    have hT : Int.gcd (termI t a b e).1 (termI t a b e).2 = 1 := by unfold termI; split <;> exact fr_gcd (by assumption)
    refine hiGo_red ha hb l _ false (fun h => by cases h) (fun _ => hiIn_red l _ ?_ hp.1) hp.2
    cases fst with
    | true => rw [Bool.true_or, if_pos rfl]; exact hT
    | false =>
      rw [Bool.false_or]
      split
      · exact hT
      · exact hx rfl

theorem place1 {lo hi : Int} {l : List E} (hS : OkS lo hi l) (hm : hasM lo hi l = true) (t : Int) : plcQ (farA 1 lo hi l t) t = hiQt t (loQ lo hi l) (hiQ lo hi l) l := by
  have h1 := (loQ_bd hS).2
  have h2 := (hiQ_bd hS).2
  have hf := farM_ok hS (s := 1) (t := t) (.inr rfl) (by omega : 0 < (loQ lo hi l).2) (by omega : 0 < (hiQ lo hi l).2) (hasM_le hS hm)
  obtain ⟨g1, g2⟩ := hiQt_top (t := t) (by omega : 0 < (loQ lo hi l).2) (by omega : 0 < (hiQ lo hi l).2) hS.one hS.pw
  have hp := plc_pos (t := t) hf.cand.out.pos hf.cand.rp
  have hd := Int.mul_pos hf.cand.out.pos hf.cand.rp
  exact rq_inj hp g2 (fr_gcd hd) (hiGo_red (by omega) (by omega) l (0, 0) true (fun _ => hS.one) (fun h => by cases h) hS.pw) (IsTop.eq hf.top g1)

theorem place0 {lo hi : Int} {l : List E} (hS : OkS lo hi l) (hm : hasM lo hi l = true) (t : Int) : plcQ (farA 0 lo hi l t) t = negQ (hiQt t (loQ (-hi) (-lo) (turnL l)) (hiQ (-hi) (-lo) (turnL l)) (turnL l)) := by
  have hT := turn_OkS hS
  have h1 := (loQ_bd hS).2
  have h2 := (hiQ_bd hS).2
  have k1 := (loQ_bd hT).2
  have k2 := (hiQ_bd hT).2
  have hf := farM_ok hS (s := 0) (t := t) (.inl rfl) (by omega : 0 < (loQ lo hi l).2) (by omega : 0 < (hiQ lo hi l).2) (hasM_le hS hm)
  obtain ⟨g1, g2⟩ := hiQt_top (t := t) (by omega : 0 < (loQ (-hi) (-lo) (turnL l)).2) (by omega : 0 < (hiQ (-hi) (-lo) (turnL l)).2) hT.one hT.pw
  have hp := plc_pos (t := t) hf.cand.out.pos hf.cand.rp
  have hd := Int.mul_pos hf.cand.out.pos hf.cand.rp
  have hred := hiGo_red (t := t) (by omega : 0 < (loQ (-hi) (-lo) (turnL l)).2) (by omega : 0 < (hiQ (-hi) (-lo) (turnL l)).2) (turnL l) (0, 0) true (fun _ => hT.one) (fun h => by cases h) hT.pw
  have htop := hf.top
  have e1 : loS 0 (loQ lo hi l) (hiQ lo hi l) = rq (loQ (-hi) (-lo) (turnL l)) := (turn_lo hS).symm
  have e2 : hiS 0 (loQ lo hi l) (hiQ lo hi l) = rq (hiQ (-hi) (-lo) (turnL l)) := (turn_hi hS).symm
  rw [pt_zero, e1, e2] at htop
  have heq := IsTop.eq htop g1
  unfold hiQt at heq g2 ⊢
  generalize hiGo t (loQ (-hi) (-lo) (turnL l)) (hiQ (-hi) (-lo) (turnL l)) true (0, 0) (turnL l) = g at *
  refine rq_inj hp (show 0 < (negQ g).2 from g2) (fr_gcd hd) (by unfold negQ; dsimp only; rw [Int.neg_gcd]; exact hred) ?_
  rw [rq_neg, ← heq]
  have : valM 0 (farM 0 t (loQ lo hi l) (hiQ lo hi l) l) t = -rq (plcQ (farA 0 lo hi l t) t) := rfl
  rw [this]
  grind

/-! ### The farthest motion agrees -/

theorem dn_le {s : Int} (hs : s = 0 ∨ s = 1) {e : E} (h : e.2.1 ≤ e.2.2) : dnS s e ≤ upS s e := by
  have h' := Rat.intCast_le_intCast.2 h
  unfold dnS upS
  rcases hs with rfl | rfl
  · rw [if_neg (by decide), if_neg (by decide)]; grind
  · rw [if_pos rfl, if_pos rfl]; exact h'

theorem pair_lo {lo hi : Int} {l : List E} (hS : OkS lo hi l) {s : Int} (hs : s = 0 ∨ s = 1) {i j : Nat} {e f : E} (hij : i < j) (he : l[i]? = some e) (hf : l[j]? = some f) :
    dnS s f - upS s e ≤ loS s (loQ lo hi l) (hiQ lo hi l) * ((f.1 : Rat) - (e.1 : Rat)) ∧ hiS s (loQ lo hi l) (hiQ lo hi l) * ((f.1 : Rat) - (e.1 : Rat)) ≤ upS s f - dnS s e := by
  obtain ⟨_, _, h3, h4⟩ := boundsP hS
  have hlt := hS.inc i j e f hij he hf
  have hjl := (List.getElem?_eq_some_iff.1 hf).1
  have hm := pairsL_mem.2 (.inr ⟨i, j, hij, hjl, rfl⟩)
  have b1 := h3 _ hm
  have b2 := h4 _ hm
  rw [bndOf_two he hf] at b1 b2
  have hd : 0 < f.1 - e.1 := by omega
  have hdR := Rat.intCast_pos.2 hd
  rw [Rat.intCast_sub] at hdR
  have r1 := rq_fr_mul (n := f.2.1 - e.2.2) hd
  have r2 := rq_fr_mul (n := f.2.2 - e.2.1) hd
  rw [Rat.intCast_sub, Rat.intCast_sub] at r1 r2
  have c1 := mul_mono b1 (Rat.le_of_lt hdR)
  have c2 := mul_mono b2 (Rat.le_of_lt hdR)
  unfold bnd2 at c1 c2
  dsimp only at c1 c2
  rw [r1] at c1
  rw [r2] at c2
  unfold dnS upS loS hiS
  rcases hs with rfl | rfl
  · rw [if_neg (by decide), if_neg (by decide), if_neg (by decide), if_neg (by decide), if_neg (by decide), if_neg (by decide)]
    constructor <;> grind
  · rw [if_pos rfl, if_pos rfl, if_pos rfl, if_pos rfl, if_pos rfl, if_pos rfl]
    exact ⟨c1, c2⟩

theorem far_in {lo hi : Int} {l : List E} (hS : OkS lo hi l) {s t : Int} (hs : s = 0 ∨ s = 1) {m : Mo} (hf : FarOk s t (loQ lo hi l) (hiQ lo hi l) l m) {j : Nat} {f : E} (hfj : l[j]? = some f) :
    dnS s f ≤ tq s m.1 + tq s m.2 * (f.1 : Rat) ∧ tq s m.1 + tq s m.2 * (f.1 : Rat) ≤ upS s f := by
  have hmem : f ∈ l := List.mem_of_getElem? hfj
  have h1 := hf.cand.out.le f hmem
  refine ⟨?_, by grind⟩
  obtain ⟨e, he, h2⟩ := hf.cand.out.ex
  obtain ⟨i, hei⟩ := List.mem_iff_getElem?.1 he
  obtain ⟨g1, g2⟩ := hf.rate
  rw [h2]
  rcases Nat.lt_trichotomy i j with h | rfl | h
  · have hlt := hS.inc i j e f h hei hfj
    have hdR : (0 : Rat) ≤ (f.1 : Rat) - (e.1 : Rat) := sub_nn (Rat.le_of_lt (Rat.intCast_lt_intCast.2 hlt))
    have := (pair_lo hS hs h hei hfj).1
    have := mul_mono g1 hdR
    grind
  · rw [hei] at hfj; cases hfj
    have := dn_le hs (hS.ent i _ hei).2.2.2.1
    grind
  · have hlt := hS.inc j i f e h hfj hei
    have hdR : (0 : Rat) ≤ (e.1 : Rat) - (f.1 : Rat) := sub_nn (Rat.le_of_lt (Rat.intCast_lt_intCast.2 hlt))
    have := (pair_lo hS hs h hfj hei).2
    have := mul_mono g2 hdR
    grind

theorem pl_rat {m : Mo} {y : Int} (h1 : 0 < m.1.2) (h2 : 0 < m.2.2) : (plN m y : Rat) = (rq m.1 + rq m.2 * (y : Rat)) * ((m.1.2 : Rat) * (m.2.2 : Rat)) := by
  have e1 := rq_mul h1
  have e2 := rq_mul h2
  unfold plN
  rw [Rat.intCast_add, Rat.intCast_mul, Rat.intCast_mul, Rat.intCast_mul, ← e1, ← e2]
  grind

theorem far_err {lo hi : Int} {l : List E} (h0 : starErr lo hi l = 0) (hm : hasM lo hi l = true) {s t : Int} (hs : s = 0 ∨ s = 1) : motErr lo hi l (farA s lo hi l t) = 0 ∧ okF (farA s lo hi l t).1 = true ∧ okF (farA s lo hi l t).2 = true := by
  have hS := starErr_ok h0
  have h1 := (loQ_bd hS).2
  have h2 := (hiQ_bd hS).2
  have hf := farM_ok hS (s := s) (t := t) hs (by omega : 0 < (loQ lo hi l).2) (by omega : 0 < (hiQ lo hi l).2) (hasM_le hS hm)
  have hf' : FarOk s t (loQ lo hi l) (hiQ lo hi l) l (farA s lo hi l t) := hf
  have hO := farA_ok hS s t
  obtain ⟨o1, o2, ⟨o3, o4⟩⟩ := hO
  have k1 : okF (farA s lo hi l t).1 = true := decide_eq_true ⟨by omega, by omega⟩
  have k2 : okF (farA s lo hi l t).2 = true := decide_eq_true ⟨by omega, by omega⟩
  refine ⟨?_, k1, k2⟩
  generalize farA s lo hi l t = m at *
  have p1 : 0 < m.1.2 := by omega
  have p2 : 0 < m.2.2 := by omega
  obtain ⟨_, _, b3, b4⟩ := boundsP hS
  have c3 := b3 (-1, -1) (pairsL_mem.2 (.inl rfl))
  have c4 := b4 (-1, -1) (pairsL_mem.2 (.inl rfl))
  have rr : rq (loQ lo hi l) ≤ rq m.2 ∧ rq m.2 ≤ rq (hiQ lo hi l) := by
    obtain ⟨g1, g2⟩ := hf'.rate
    unfold loS tq at g1
    unfold hiS tq at g2
    rcases hs with rfl | rfl
    · rw [if_neg (by decide), if_neg (by decide)] at g1 g2; grind
    · rw [if_pos rfl, if_pos rfl] at g1 g2; exact ⟨g1, g2⟩
  have q1 : lo * m.2.2 ≤ m.2.1 := by
    have := (rq_le (a := (lo, 1)) (b := m.2) (by decide : (0 : Int) < 1) p2).1 (Rat.le_trans c3 rr.1)
    dsimp only at this; omega
  have q2 : m.2.1 ≤ hi * m.2.2 := by
    have := (rq_le (a := m.2) (b := (hi, 1)) p2 (by decide : (0 : Int) < 1)).1 (Rat.le_trans rr.2 c4)
    dsimp only at this; omega
  have hall : l.all (inE m) = true := by
    rw [List.all_eq_true]
    intro e he
    obtain ⟨j, hej⟩ := List.mem_iff_getElem?.1 he
    obtain ⟨w1, w2⟩ := far_in hS hs hf' hej
    have hin : (e.2.1 : Rat) ≤ rq m.1 + rq m.2 * (e.1 : Rat) ∧ rq m.1 + rq m.2 * (e.1 : Rat) ≤ (e.2.2 : Rat) := by
      unfold dnS tq at w1
      unfold upS tq at w2
      rcases hs with rfl | rfl
      · rw [if_neg (by decide), if_neg (by decide), if_neg (by decide)] at w1 w2; constructor <;> grind
      · rw [if_pos rfl, if_pos rfl, if_pos rfl] at w1 w2; exact ⟨w1, w2⟩
    have hdd : (0 : Rat) ≤ (m.1.2 : Rat) * (m.2.2 : Rat) := Rat.le_of_lt (Rat.mul_pos (Rat.intCast_pos.2 p1) (Rat.intCast_pos.2 p2))
    have v1 := mul_mono hin.1 hdd
    have v2 := mul_mono hin.2 hdd
    rw [← pl_rat p1 p2] at v1 v2
    rw [← Rat.intCast_mul, ← Rat.intCast_mul, Rat.intCast_le_intCast, ← Int.mul_assoc] at v1 v2
    unfold inE
    rw [decide_eq_true v1, decide_eq_true v2]; rfl
  have hagr : agr lo hi l m = true := by unfold agr; rw [decide_eq_true q1, decide_eq_true q2, hall]; rfl
  unfold motErr
  rw [if_pos h0, k1, k2, Bool.and_self, if_pos rfl, if_pos hagr]
end Go.Proofs.D

