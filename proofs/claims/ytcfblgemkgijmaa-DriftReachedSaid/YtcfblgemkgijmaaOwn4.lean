/- What the functions answer that the laws call, one after another, part 4. -/
import Derived.Test.YtcfblgemkgijmaaOwn3

set_option linter.unusedVariables false
namespace Go.Proofs.D
open Go.As
set_option maxRecDepth 20000
set_option linter.unusedVariables false
set_option linter.unusedSimpArgs false

/-! ### The reference's greatest place -/

def ltQ (x y : Int × Int) : Bool := decide (x.1 * y.2 < y.1 * x.2)
def termI (t : Int) (a b : Int × Int) (e : E) : Int × Int := if t < e.1 then fr (e.2.2 * a.2 + a.1 * (t - e.1)) a.2 else fr (e.2.2 * b.2 + b.1 * (t - e.1)) b.2
def termP (t : Int) (e f : E) : Int × Int := fr (e.2.2 * (f.1 - t) + f.2.2 * (t - e.1)) (f.1 - e.1)
def inH (t : Int) (e : E) (x : Int × Int) (f : E) : Int × Int := if t < e.1 ∨ f.1 < t then x else if ltQ (termP t e f) x = true then termP t e f else x
def hiIn (t : Int) (e : E) (x : Int × Int) (L : List E) : Int × Int := L.foldl (inH t e) x
def hiGo (t : Int) (a b : Int × Int) : Bool → (Int × Int) → List E → Int × Int
  | _, x, [] => x
  | fst, x, e :: l => hiGo t a b false (hiIn t e (if (fst || ltQ (termI t a b e) x) = true then termI t a b e else x) l) l
def hiQt (t : Int) (a b : Int × Int) (l : List E) : Int × Int := hiGo t a b true (0, 0) l

structure OkH (x : Int × Int) : Prop where
  n : -6000000 ≤ x.1 ∧ x.1 ≤ 6000000
  d : 1 ≤ x.2 ∧ x.2 ≤ 200

theorem carried_ok (h : H) (u : Int) (r : Int × Int) (d : Int) (hu : -10000 ≤ u ∧ u ≤ 10000) (hr : OkR r) (hd : -200 ≤ d ∧ d ≤ 200) : CallOk Try.prog 114 [.int .i64 u, qV r, .int .i64 d] h (qV (fr (u * r.2 + r.1 * d) r.2)) h ∧ OkH (fr (u * r.2 + r.1 * d) r.2) := by
  obtain ⟨h1, h2, h3⟩ := hr
  have g1 := mul_bd (by decide : (0 : Int) ≤ 10000) hu (⟨by omega, h3⟩ : 0 ≤ r.2 ∧ r.2 ≤ 200)
  have g2 : -4000000 ≤ r.1 * d ∧ r.1 * d ≤ 4000000 := by
    rcases Int.le_total 0 d with h4 | h4
    · have := mul_bd (by decide : (0 : Int) ≤ 20000) h1 (⟨h4, hd.2⟩ : 0 ≤ d ∧ d ≤ 200)
      omega
    · have := mul_bd (by decide : (0 : Int) ≤ 20000) h1 (⟨by omega, by omega⟩ : 0 ≤ -d ∧ -d ≤ 200)
      rw [Int.mul_neg] at this
      omega
  refine ⟨?_, fr_bd (by omega) (by omega), fr_den (by omega) (by omega)⟩
  refine CallOk.run0 Try.func114 rfl rfl rfl rfl rfl (WpR.of_vc ?_)
  (conv => whnf); (repeat' (first | ((with_reducible refine ifb_mk (fun hc => ?_) (fun hc => ?_)) <;> ((try simp only [decide_eq_true_eq, decide_eq_false_iff_not, Bool.not_eq_true', Bool.not_eq_false', Int.not_lt, Int.not_le, ne_eq, Decidable.not_not, beq_iff_eq, List.cons.injEq, and_true] at hc); (first | (exfalso; omega) | conv => whnf))) | ((with_reducible refine And.intro True.intro ?_); conv => whnf) | ((with_reducible refine CallX.all ?_); refine CallW.of_ok (refFraction_ok _ (u * r.2 + r.1 * d) r.2 (by unfold InQ; omega) (by omega)) ?_; conv => whnf) | ((with_reducible refine And.intro ?hh ?_); (case hh => (unfold InR; (try dsimp only); omega)); conv => whnf) | ((with_reducible refine And.intro ?hh ?_); (case hh => ((try dsimp only); omega)); conv => whnf) | ((with_reducible refine And.intro ?hh ?_); (case hh => ((conv => whnf); (repeat' (first | exact True.intro | rfl | refine And.intro ?_ ?_)); done)); conv => whnf) | fail))
  all_goals (refine ⟨[], ?_, rfl, rfl, trivial, (by (repeat' (first | exact True.intro | rfl | refine And.intro ?_ ?_)))⟩; first | rfl | (simp only [renV, renL]; first | done | rfl | (congr 1; grind []) | grind []))

theorem termI_ok {t : Int} {a b : Int × Int} {e : E} (ha : OkR a) (hb : OkR b) (ht : 0 ≤ t ∧ t ≤ 200) (he : 0 ≤ e.1 ∧ e.1 ≤ 200 ∧ -10000 ≤ e.2.1 ∧ e.2.1 ≤ e.2.2 ∧ e.2.2 ≤ 10000) : OkH (termI t a b e) := by
  unfold termI
  split
  · exact (carried_ok H.empty e.2.2 a (t - e.1) (by omega) ha (by omega)).2
  · exact (carried_ok H.empty e.2.2 b (t - e.1) (by omega) hb (by omega)).2

structure TermOk (t : Int) (e f : E) : Prop where
  a : -2000000 ≤ e.2.2 * (f.1 - t) ∧ e.2.2 * (f.1 - t) ≤ 2000000
  b : -2000000 ≤ f.2.2 * (t - e.1) ∧ f.2.2 * (t - e.1) ≤ 2000000
  ok : OkH (termP t e f)
theorem termP_ok {t : Int} {e f : E} (ht : 0 ≤ t ∧ t ≤ 200) (he : 0 ≤ e.1 ∧ e.1 ≤ 200 ∧ -10000 ≤ e.2.1 ∧ e.2.1 ≤ e.2.2 ∧ e.2.2 ≤ 10000) (hf : 0 ≤ f.1 ∧ f.1 ≤ 200 ∧ -10000 ≤ f.2.1 ∧ f.2.1 ≤ f.2.2 ∧ f.2.2 ≤ 10000) (h : e.1 < f.1) (h1 : e.1 ≤ t) (h2 : t ≤ f.1) : TermOk t e f := by
  have g1 := mul_bd (by decide : (0 : Int) ≤ 10000) (by omega : -10000 ≤ e.2.2 ∧ e.2.2 ≤ 10000) (by omega : 0 ≤ f.1 - t ∧ f.1 - t ≤ 200)
  have g2 := mul_bd (by decide : (0 : Int) ≤ 10000) (by omega : -10000 ≤ f.2.2 ∧ f.2.2 ≤ 10000) (by omega : 0 ≤ t - e.1 ∧ t - e.1 ≤ 200)
  exact ⟨by omega, by omega, fr_bd (by omega) (by omega), fr_den (by omega) (by omega)⟩

end Go.Proofs.D

namespace Go.Proofs.D

/-! ### The farthest place of all motions: of lines that hold it back -/

structure LeT (P : List (Rat × Rat)) (t a b x : Rat) : Prop where
  low : ∀ p ∈ P, p.1 ≤ t → x ≤ p.2 + b * (t - p.1)
  high : ∀ p ∈ P, t < p.1 → x ≤ p.2 + a * (t - p.1)
  two : ∀ p ∈ P, ∀ q ∈ P, p.1 ≤ t → t ≤ q.1 → p.1 < q.1 → x * (q.1 - p.1) ≤ p.2 * (q.1 - t) + q.2 * (t - p.1)

def LeF (P : List (Rat × Rat)) (t v x : Rat) : Prop := ∀ p ∈ P, x ≤ p.2 + v * (t - p.1)

def Corner (P : List (Rat × Rat)) (a b v : Rat) : Prop := v = a ∨ v = b ∨ ∃ p ∈ P, ∃ q ∈ P, p.1 < q.1 ∧ v * (q.1 - p.1) = q.2 - p.2 ∧ a < v ∧ v < b

theorem mul_mono {a b c : Rat} (h : a ≤ b) (hc : 0 ≤ c) : a * c ≤ b * c := by
  have := Rat.mul_le_mul_of_nonneg_left h hc
  grind
theorem mul_anti {a b c : Rat} (h : a ≤ b) (hc : c ≤ 0) : b * c ≤ a * c := by
  have := Rat.mul_le_mul_of_nonneg_left h (by grind : 0 ≤ -c)
  grind

theorem dual1 {P : List (Rat × Rat)} {t a b v x : Rat} (h1 : a ≤ v) (h2 : v ≤ b) (h : LeF P t v x) : LeT P t a b x where
  low p hp hy := by
    have := h p hp
    have := mul_mono h2 (by grind : 0 ≤ t - p.1)
    grind
  high p hp hy := by
    have := h p hp
    have := mul_anti h1 (by grind : t - p.1 ≤ 0)
    grind
  two p hp q hq hy1 hy2 hlt := by
    have e1 := mul_mono (h p hp) (by grind : 0 ≤ q.1 - t)
    have e2 := mul_mono (h q hq) (by grind : 0 ≤ t - p.1)
    grind

theorem argmin {α : Type} (f : α → Rat) : ∀ (L : List α), L ≠ [] → ∃ x ∈ L, ∀ y ∈ L, f x ≤ f y
  | [], h => absurd rfl h
  | [a], _ => ⟨a, List.mem_cons_self .., fun y hy => by rw [List.mem_singleton.1 hy]; exact Rat.le_refl⟩
  | a :: b :: L, _ => by
    obtain ⟨x, hx, hm⟩ := argmin f (b :: L) (by simp)
    by_cases h : f a ≤ f x
    · refine ⟨a, List.mem_cons_self .., fun y hy => ?_⟩
      rcases List.mem_cons.1 hy with rfl | hy
      · exact Rat.le_refl
      · exact Rat.le_trans h (hm y hy)
    · refine ⟨x, List.mem_cons_of_mem _ hx, fun y hy => ?_⟩
      rcases List.mem_cons.1 hy with rfl | hy
      · exact Rat.le_of_lt (Rat.not_le.1 h)
      · exact hm y hy

theorem dual2 (P : List (Rat × Rat)) (t a b : Rat) (hab : a ≤ b) : ∃ v, Corner P a b v ∧ ∀ x, LeT P t a b x → LeF P t v x := by
  by_cases hB : ∃ q ∈ P, t < q.1
  · by_cases hA : ∃ p ∈ P, p.1 < t
    · obtain ⟨q0, hq0, hq1⟩ := hB
      obtain ⟨p0, hp0, hp1⟩ := hA
      let L := (P.filter fun p => decide (p.1 < t)).flatMap fun p => (P.filter fun q => decide (t < q.1)).map fun q => (p, q)
      have memL : ∀ pq : (Rat × Rat) × (Rat × Rat), pq ∈ L ↔ (pq.1 ∈ P ∧ pq.1.1 < t) ∧ pq.2 ∈ P ∧ t < pq.2.1 := by
        intro pq
        show pq ∈ (P.filter fun p => decide (p.1 < t)).flatMap _ ↔ _
        rw [List.mem_flatMap]
        constructor
        · rintro ⟨p, hp, h⟩
          obtain ⟨q, hq, rfl⟩ := List.mem_map.1 h
          rw [List.mem_filter, decide_eq_true_eq] at hp hq
          exact ⟨hp, hq⟩
        · rintro ⟨h1, h2⟩
          refine ⟨pq.1, List.mem_filter.2 ⟨h1.1, decide_eq_true h1.2⟩, List.mem_map.2 ⟨pq.2, List.mem_filter.2 ⟨h2.1, decide_eq_true h2.2⟩, rfl⟩⟩
      have hne : L ≠ [] := fun hc => by
        have := (memL (p0, q0)).2 ⟨⟨hp0, hp1⟩, hq0, hq1⟩
        rw [hc] at this; cases this
      let f : (Rat × Rat) × (Rat × Rat) → Rat := fun pq => (pq.1.2 * (pq.2.1 - t) + pq.2.2 * (t - pq.1.1)) / (pq.2.1 - pq.1.1)
      obtain ⟨⟨p, q⟩, hpq, hmin⟩ := argmin f L hne
      obtain ⟨⟨hp, hpt⟩, hq, hqt⟩ := (memL _).1 hpq
      dsimp only at hp hpt hq hqt
      have hf : ∀ pq ∈ L, f pq * (pq.2.1 - pq.1.1) = pq.1.2 * (pq.2.1 - t) + pq.2.2 * (t - pq.1.1) := fun pq h => by
        obtain ⟨⟨_, h1⟩, _, h2⟩ := (memL _).1 h
        exact Rat.div_mul_cancel (by grind)
      have hT := hf _ hpq
      dsimp only at hT
      obtain ⟨T, hTd⟩ : ∃ T, T = f (p, q) := ⟨_, rfl⟩
      rw [← hTd] at hT
      have hd : q.1 - p.1 ≠ 0 := by grind
      obtain ⟨v0, hv0⟩ : ∃ v0, v0 * (q.1 - p.1) = q.2 - p.2 := ⟨(q.2 - p.2) / (q.1 - p.1), Rat.div_mul_cancel hd⟩
      -- at v0 both lines are at T
      have hlp : p.2 + v0 * (t - p.1) = T := by
        have : (p.2 + v0 * (t - p.1) - T) * (q.1 - p.1) = 0 := by grind
        rcases Rat.mul_eq_zero.1 this with h | h
        · grind
        · exact absurd h hd
      have hlq : q.2 + v0 * (t - q.1) = T := by grind
      have hA0 : ∀ j ∈ P, j.1 < t → T ≤ j.2 + v0 * (t - j.1) := by
        intro j hj hjt
        have hm : (j, q) ∈ L := (memL _).2 ⟨⟨hj, hjt⟩, hq, hqt⟩
        have h1 := hmin _ hm
        have h2 := hf _ hm
        rw [← hTd] at h1
        dsimp only at h2
        have h3 := mul_mono h1 (by grind : 0 ≤ q.1 - j.1)
        -- (line j at v0 - T) (q - t) is at least 0
        apply Rat.not_lt.1
        intro hc
        have h4 : 0 < (T - (j.2 + v0 * (t - j.1))) * (q.1 - t) := Rat.mul_pos (by grind) (by grind)
        have h5 : q.2 * (t - j.1) = (T - v0 * (t - q.1)) * (t - j.1) := by rw [← hlq]; grind
        rw [h2, h5] at h3
        clear hmin hf h1 h2 hlp hlq hT hTd
        grind
      have hB0 : ∀ j ∈ P, t < j.1 → T ≤ j.2 + v0 * (t - j.1) := by
        intro j hj hjt
        have hm : (p, j) ∈ L := (memL _).2 ⟨⟨hp, hpt⟩, hj, hjt⟩
        have h1 := hmin _ hm
        have h2 := hf _ hm
        rw [← hTd] at h1
        dsimp only at h2
        have h3 := mul_mono h1 (by grind : 0 ≤ j.1 - p.1)
        apply Rat.not_lt.1
        intro hc
        have h4 : 0 < (T - (j.2 + v0 * (t - j.1))) * (t - p.1) := Rat.mul_pos (by grind) (by grind)
        have h5 : p.2 * (j.1 - t) = (T - v0 * (t - p.1)) * (j.1 - t) := by rw [← hlp]; grind
        rw [h2, h5] at h3
        clear hmin hf h1 h2 hlp hlq hT hTd
        grind
      have hxT : ∀ x, LeT P t a b x → x ≤ T := by
        intro x hx
        have h1 := hx.two p hp q hq (Rat.le_of_lt hpt) (Rat.le_of_lt hqt) (by grind)
        apply Rat.not_lt.1
        intro hc
        have h4 : 0 < (x - T) * (q.1 - p.1) := Rat.mul_pos (by grind) (by grind)
        grind
      by_cases hb : b ≤ v0
      · refine ⟨b, .inr (.inl rfl), fun x hx j hj => ?_⟩
        by_cases hjt : j.1 ≤ t
        · exact hx.low j hj hjt
        · have h1 := hB0 j hj (Rat.not_le.1 hjt)
          have h2 := hxT x hx
          have h3 := mul_anti hb (by grind : t - j.1 ≤ 0)
          grind
      · by_cases ha : v0 ≤ a
        · refine ⟨a, .inl rfl, fun x hx j hj => ?_⟩
          by_cases hjt : t < j.1
          · exact hx.high j hj hjt
          · by_cases hje : j.1 = t
            · have := hx.low j hj (by grind)
              grind
            · have h1 := hA0 j hj (by grind)
              have h2 := hxT x hx
              have h3 := mul_mono ha (by grind : 0 ≤ t - j.1)
              grind
        · refine ⟨v0, .inr (.inr ⟨p, hp, q, hq, by grind, hv0, Rat.not_le.1 ha, Rat.not_le.1 hb⟩), fun x hx j hj => ?_⟩
          have h2 := hxT x hx
          by_cases hjt : t < j.1
          · exact Rat.le_trans h2 (hB0 j hj hjt)
          · by_cases hje : j.1 = t
            · have := hx.low j hj (by grind)
              have e : t - j.1 = 0 := by grind
              rw [e, Rat.mul_zero] at this ⊢
              exact this
            · exact Rat.le_trans h2 (hA0 j hj (by grind))
    · refine ⟨a, .inl rfl, fun x hx j hj => ?_⟩
      by_cases hjt : t < j.1
      · exact hx.high j hj hjt
      · have hje : j.1 = t := by
          have : ¬ j.1 < t := fun hc => hA ⟨j, hj, hc⟩
          grind
        have := hx.low j hj (by grind)
        grind
  · refine ⟨b, .inr (.inl rfl), fun x hx j hj => ?_⟩
    have : ¬ t < j.1 := fun hc => hB ⟨j, hj, hc⟩
    exact hx.low j hj (by grind)
end Go.Proofs.D

namespace Go.Proofs.D
open Go.As
set_option maxRecDepth 20000
set_option linter.unusedVariables false
set_option linter.unusedSimpArgs false

/-! ### The reference's greatest place is the greatest that all terms allow -/

theorem rq_fr_mul {n d : Int} (hd : 0 < d) : rq (fr n d) * (d : Rat) = (n : Rat) := by
  rw [rq_fr hd]
  exact Rat.div_mul_cancel (by have := Rat.intCast_pos.2 hd; grind)
theorem rq_mul {x : Int × Int} (hd : 0 < x.2) : rq x * (x.2 : Rat) = (x.1 : Rat) := by
  unfold rq
  exact Rat.div_mul_cancel (by have := Rat.intCast_pos.2 hd; grind)
theorem cancelR {a b c : Rat} (hc : c ≠ 0) (h : a * c = b * c) : a = b := by
  have : (a - b) * c = 0 := by grind
  rcases Rat.mul_eq_zero.1 this with h | h
  · grind
  · exact absurd h hc
theorem sub_nn {a b : Rat} (h : a ≤ b) : 0 ≤ b - a := by grind
theorem sub_ps {a b : Rat} (h : a < b) : 0 < b - a := by grind
theorem le_of_mulR {z w d : Rat} (hd : 0 < d) (h : z * d ≤ w * d) : z ≤ w := by
  apply Rat.not_lt.1
  intro hc
  have := Rat.mul_pos (sub_ps hc) hd
  grind
theorem castNe {d : Int} (hd : 0 < d) : (d : Rat) ≠ 0 := by have := Rat.intCast_pos.2 hd; grind

theorem carried_rat {u d : Int} {r : Int × Int} (hr : 0 < r.2) : rq (fr (u * r.2 + r.1 * d) r.2) = (u : Rat) + rq r * (d : Rat) := by
  apply cancelR (castNe hr)
  rw [rq_fr_mul hr, Rat.intCast_add, Rat.intCast_mul, Rat.intCast_mul]
  have := rq_mul hr
  grind

def ptE (e : E) : Rat × Rat := ((e.1 : Rat), (e.2.2 : Rat))
def okPair (t : Int) (e f : E) : Prop := e.1 ≤ t ∧ t ≤ f.1

theorem termI_rat {t : Int} {a b : Int × Int} {e : E} (ha : 0 < a.2) (hb : 0 < b.2) : rq (termI t a b e) = (ptE e).2 + (if t < e.1 then rq a else rq b) * ((t : Rat) - (ptE e).1) := by
  unfold termI
  split
  · rw [carried_rat ha, Rat.intCast_sub]; rfl
  · rw [carried_rat hb, Rat.intCast_sub]; rfl
theorem termP_rat {t : Int} {e f : E} (h : e.1 < f.1) : rq (termP t e f) * ((ptE f).1 - (ptE e).1) = (ptE e).2 * ((ptE f).1 - (t : Rat)) + (ptE f).2 * ((t : Rat) - (ptE e).1) := by
  have hd : 0 < f.1 - e.1 := by omega
  have := rq_fr_mul (n := e.2.2 * (f.1 - t) + f.2.2 * (t - e.1)) hd
  rw [Rat.intCast_add, Rat.intCast_mul, Rat.intCast_mul, Rat.intCast_sub, Rat.intCast_sub, Rat.intCast_sub] at this
  exact this

theorem ltQ_rat {x y : Int × Int} (hx : 0 < x.2) (hy : 0 < y.2) : ltQ x y = decide (rq x < rq y) := decide_eq_decide.2 (rq_lt hx hy).symm

structure HiIn (t : Int) (e : E) (L : List E) (x g : Int × Int) : Prop where
  le : rq g ≤ rq x
  all : ∀ f ∈ L, okPair t e f → rq g ≤ rq (termP t e f)
  src : g = x ∨ ∃ f ∈ L, okPair t e f ∧ g = termP t e f

theorem hiIn_spec {t : Int} {e : E} : ∀ (L : List E) (x : Int × Int), 0 < x.2 → (∀ f ∈ L, e.1 < f.1) → HiIn t e L x (hiIn t e x L) ∧ 0 < (hiIn t e x L).2
  | [], x, hx, _ => ⟨⟨Rat.le_refl, fun f hf => (by cases hf), .inl rfl⟩, hx⟩
  | f :: L, x, hx, hL => by
    have hp : 0 < (termP t e f).2 := fr_pos (by have := hL f (List.mem_cons_self ..); omega)
    have hstep : 0 < (inH t e x f).2 ∧ rq (inH t e x f) ≤ rq x ∧ (okPair t e f → rq (inH t e x f) ≤ rq (termP t e f)) ∧ (inH t e x f = x ∨ okPair t e f ∧ inH t e x f = termP t e f) := by
      unfold inH
      split
      · rename_i hc
        exact ⟨hx, Rat.le_refl, fun h => by unfold okPair at h; omega, .inl rfl⟩
      · rename_i hc
        rw [ltQ_rat hp hx]
        split
        · rename_i hlt
          exact ⟨hp, Rat.le_of_lt (of_decide_eq_true hlt), fun _ => Rat.le_refl, .inr ⟨by unfold okPair; omega, rfl⟩⟩
        · rename_i hlt
          exact ⟨hx, Rat.le_refl, fun _ => Rat.not_lt.1 (by simpa using hlt), .inl rfl⟩
    obtain ⟨s1, s2, s3, s4⟩ := hstep
    obtain ⟨⟨r1, r2, r3⟩, r4⟩ := hiIn_spec L (inH t e x f) s1 (fun g hg => hL g (List.mem_cons_of_mem _ hg))
    have hdef : hiIn t e x (f :: L) = hiIn t e (inH t e x f) L := rfl
    rw [hdef]
    refine ⟨⟨Rat.le_trans r1 s2, fun g hg hok => ?_, ?_⟩, r4⟩
    · rcases List.mem_cons.1 hg with rfl | hg
      · exact Rat.le_trans r1 (s3 hok)
      · exact r2 g hg hok
    · rcases r3 with h | ⟨g, hg, hok, h⟩
      · rw [h]
        rcases s4 with h4 | ⟨h4, h5⟩
        · exact .inl h4
        · exact .inr ⟨f, List.mem_cons_self .., h4, h5⟩
      · exact .inr ⟨g, List.mem_cons_of_mem _ hg, hok, h⟩

structure HiGo (t : Int) (a b : Int × Int) (l : List E) (x g : Int × Int) : Prop where
  le : rq g ≤ rq x
  one : ∀ e ∈ l, rq g ≤ rq (termI t a b e)
  two : l.Pairwise fun e f => okPair t e f → rq g ≤ rq (termP t e f)
  src : g = x ∨ (∃ e ∈ l, g = termI t a b e) ∨ ∃ e ∈ l, ∃ f ∈ l, e.1 < f.1 ∧ okPair t e f ∧ g = termP t e f

theorem hiGo_spec {t : Int} {a b : Int × Int} (ha : 0 < a.2) (hb : 0 < b.2) : ∀ (l : List E) (x : Int × Int), 0 < x.2 → (l.Pairwise fun e f => e.1 < f.1) → HiGo t a b l x (hiGo t a b false x l) ∧ 0 < (hiGo t a b false x l).2
  | [], x, hx, _ => ⟨⟨Rat.le_refl, fun e he => (by cases he), .nil, .inl rfl⟩, hx⟩
  | e :: l, x, hx, hp => by
    rw [List.pairwise_cons] at hp
    have hT : 0 < (termI t a b e).2 := by unfold termI; split <;> exact fr_pos (by assumption)
    obtain ⟨y, hy⟩ : ∃ y, y = if (false || ltQ (termI t a b e) x) = true then termI t a b e else x := ⟨_, rfl⟩
    have hy1 : 0 < y.2 ∧ rq y ≤ rq x ∧ rq y ≤ rq (termI t a b e) ∧ (y = x ∨ y = termI t a b e) := by
      rw [Bool.false_or, ltQ_rat hT hx] at hy
      by_cases hlt : rq (termI t a b e) < rq x
      · rw [if_pos (decide_eq_true hlt)] at hy; rw [hy]; exact ⟨hT, Rat.le_of_lt hlt, Rat.le_refl, .inr rfl⟩
      · rw [if_neg (by simpa using hlt)] at hy; rw [hy]; exact ⟨hx, Rat.le_refl, Rat.not_lt.1 hlt, .inl rfl⟩
    obtain ⟨y1, y2, y3, y4⟩ := hy1
    obtain ⟨⟨i1, i2, i3⟩, i4⟩ := hiIn_spec (t := t) (e := e) l y y1 hp.1
    obtain ⟨⟨g1, g2, g3, g4⟩, g5⟩ := hiGo_spec ha hb l (hiIn t e y l) i4 hp.2
    have hdef : hiGo t a b false x (e :: l) = hiGo t a b false (hiIn t e y l) l := by rw [hy]; rfl
    rw [hdef]
    refine ⟨⟨Rat.le_trans g1 (Rat.le_trans i1 y2), fun f hf => ?_, ?_, ?_⟩, g5⟩
    · rcases List.mem_cons.1 hf with rfl | hf
      · exact Rat.le_trans g1 (Rat.le_trans i1 y3)
      · exact g2 f hf
    · rw [List.pairwise_cons]
      exact ⟨fun f hf hok => Rat.le_trans g1 (i2 f hf hok), g3⟩
    · rcases g4 with h | ⟨f, hf, h⟩ | ⟨f, hf, f2, hf2, h⟩
      · rw [h]
        rcases i3 with h3 | ⟨f, hf, hok, h3⟩
        · rw [h3]
          rcases y4 with h4 | h4
          · exact .inl h4
          · exact .inr (.inl ⟨e, List.mem_cons_self .., h4⟩)
        · exact .inr (.inr ⟨e, List.mem_cons_self .., f, List.mem_cons_of_mem _ hf, hp.1 f hf, hok, h3⟩)
      · exact .inr (.inl ⟨f, List.mem_cons_of_mem _ hf, h⟩)
      · exact .inr (.inr ⟨f, List.mem_cons_of_mem _ hf, f2, List.mem_cons_of_mem _ hf2, h⟩)

/-- The greatest that all terms allow. -/
structure IsTop (P : List (Rat × Rat)) (t a b x : Rat) : Prop where
  le : LeT P t a b x
  top : ∀ z, LeT P t a b z → z ≤ x

theorem OkS.pw {lo hi : Int} {l : List E} (hS : OkS lo hi l) : l.Pairwise fun e f => e.1 < f.1 := by
  rw [List.pairwise_iff_getElem]
  intro i j hi' hj' hij
  exact hS.inc i j _ _ hij (List.getElem?_eq_getElem hi') (List.getElem?_eq_getElem hj')

theorem hiQt_top {t : Int} {a b : Int × Int} (ha : 0 < a.2) (hb : 0 < b.2) {l : List E} (hl : 0 < l.length) (hp : l.Pairwise fun e f => e.1 < f.1) : IsTop (l.map ptE) (t : Rat) (rq a) (rq b) (rq (hiQt t a b l)) ∧ 0 < (hiQt t a b l).2 := by
  cases l with
  | nil => simp at hl
  | cons e l =>
    have hdef : hiQt t a b (e :: l) = hiGo t a b false (termI t a b e) (e :: l) := by
      show hiGo t a b false (hiIn t e (if (true || ltQ (termI t a b e) (0, 0)) = true then termI t a b e else (0, 0)) l) l = hiGo t a b false (hiIn t e (if (false || ltQ (termI t a b e) (termI t a b e)) = true then termI t a b e else termI t a b e) l) l
      rw [Bool.true_or, if_pos rfl, ite_self]
    have hT : 0 < (termI t a b e).2 := by unfold termI; split <;> exact fr_pos (by assumption)
    obtain ⟨⟨h1, h2, h3, h4⟩, h5⟩ := hiGo_spec (t := t) ha hb (e :: l) (termI t a b e) hT hp
    rw [hdef]
    generalize hiGo t a b false (termI t a b e) (e :: l) = g at *
    have hterm : ∀ f ∈ e :: l, ∀ z, LeT ((e :: l).map ptE) (t : Rat) (rq a) (rq b) z → z ≤ rq (termI t a b f) := by
      intro f hf z hz
      rw [termI_rat ha hb]
      have hm : ptE f ∈ (e :: l).map ptE := List.mem_map.2 ⟨f, hf, rfl⟩
      split
      · rename_i hlt
        exact hz.high _ hm (Rat.intCast_lt_intCast.2 hlt)
      · rename_i hlt
        exact hz.low _ hm (Rat.intCast_le_intCast.2 (by omega))
    refine ⟨⟨⟨fun p hp1 hy => ?_, fun p hp1 hy => ?_, fun p hp1 q hq1 hy1 hy2 hlt => ?_⟩, fun z hz => ?_⟩, h5⟩
    · obtain ⟨f, hf, rfl⟩ := List.mem_map.1 hp1
      have := h2 f hf
      rw [termI_rat ha hb, if_neg (by have := Rat.intCast_le_intCast.1 hy; omega)] at this
      exact this
    · obtain ⟨f, hf, rfl⟩ := List.mem_map.1 hp1
      have := h2 f hf
      rw [termI_rat ha hb, if_pos (Rat.intCast_lt_intCast.1 hy)] at this
      exact this
    · obtain ⟨f, hf, rfl⟩ := List.mem_map.1 hp1
      obtain ⟨f2, hf2, rfl⟩ := List.mem_map.1 hq1
      have hlt' : f.1 < f2.1 := Rat.intCast_lt_intCast.1 hlt
      obtain ⟨i, hi, rfl⟩ := List.getElem_of_mem hf
      obtain ⟨j, hj, rfl⟩ := List.getElem_of_mem hf2
      have hij : i < j := by
        rcases Nat.lt_trichotomy i j with h | rfl | h
        · exact h
        · omega
        · have := List.pairwise_iff_getElem.1 hp j i hj hi h; omega
      have := List.pairwise_iff_getElem.1 h3 i j hi hj hij ⟨Rat.intCast_le_intCast.1 hy1, Rat.intCast_le_intCast.1 hy2⟩
      have h6 := termP_rat (t := t) hlt'
      have h7 := mul_mono this (sub_nn (Rat.le_of_lt hlt))
      rw [h6] at h7
      exact h7
    · rcases h4 with h | ⟨f, hf, h⟩ | ⟨f, hf, f2, hf2, hlt, hok, h⟩
      · rw [h]; exact hterm e (List.mem_cons_self ..) z hz
      · rw [h]; exact hterm f hf z hz
      · rw [h]
        have h6 := termP_rat (t := t) hlt
        have h7 := hz.two (ptE f) (List.mem_map.2 ⟨f, hf, rfl⟩) (ptE f2) (List.mem_map.2 ⟨f2, hf2, rfl⟩) (Rat.intCast_le_intCast.2 hok.1) (Rat.intCast_le_intCast.2 hok.2) (Rat.intCast_lt_intCast.2 hlt)
        rw [← h6] at h7
        exact le_of_mulR (sub_ps (Rat.intCast_lt_intCast.2 hlt : (ptE f).1 < (ptE f2).1)) h7
end Go.Proofs.D

namespace Go.Proofs.D
open Go.As
set_option maxRecDepth 20000
set_option linter.unusedVariables false
set_option linter.unusedSimpArgs false

end Go.Proofs.D

