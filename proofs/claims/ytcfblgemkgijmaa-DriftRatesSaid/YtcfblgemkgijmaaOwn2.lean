/- What the functions answer that the laws call, one after another, part 2. -/
import Derived.Test.YtcfblgemkgijmaaOwn1

set_option linter.unusedVariables false
namespace Go.Proofs.D
open Go.As
set_option maxRecDepth 20000
set_option linter.unusedVariables false
set_option linter.unusedSimpArgs false

/-! ### Fractions as rational numbers -/

def rq (x : Int × Int) : Rat := (x.1 : Rat) / (x.2 : Rat)

theorem rq_lt {a b : Int × Int} (ha : 0 < a.2) (hb : 0 < b.2) : rq a < rq b ↔ a.1 * b.2 < b.1 * a.2 := by
  have ha' : (0 : Rat) < (a.2 : Rat) := Rat.intCast_pos.2 ha
  have hb' : (0 : Rat) < (b.2 : Rat) := Rat.intCast_pos.2 hb
  unfold rq
  rw [Rat.div_lt_iff ha', Rat.div_def, Rat.mul_assoc, Rat.mul_comm (b.2 : Rat)⁻¹, ← Rat.mul_assoc, ← Rat.div_def, Rat.lt_div_iff hb', ← Rat.intCast_mul, ← Rat.intCast_mul, Rat.intCast_lt_intCast]
theorem rq_le {a b : Int × Int} (ha : 0 < a.2) (hb : 0 < b.2) : rq a ≤ rq b ↔ a.1 * b.2 ≤ b.1 * a.2 := by
  rw [← Rat.not_lt, rq_lt hb ha]; omega

/-- Fractions in least terms that are the same number are the same. -/
theorem rq_inj {a b : Int × Int} (ha : 0 < a.2) (hb : 0 < b.2) (ga : Int.gcd a.1 a.2 = 1) (gb : Int.gcd b.1 b.2 = 1) (h : rq a = rq b) : a = b := by
  have h1 : a.1 * b.2 = b.1 * a.2 := by
    have h1 := (rq_le ha hb).1 (by rw [h]; exact Rat.le_refl)
    have h2 := (rq_le hb ha).1 (by rw [h]; exact Rat.le_refl)
    omega
  have d1 : a.2 ∣ b.2 := by
    have : a.2 ∣ a.1 * b.2 := ⟨b.1, by rw [h1, Int.mul_comm]⟩
    rw [← Int.dvd_gcd_mul_iff_dvd_mul, Int.gcd_comm, ga] at this; simpa using this
  have d2 : b.2 ∣ a.2 := by
    have : b.2 ∣ b.1 * a.2 := ⟨a.1, by rw [← h1, Int.mul_comm]⟩
    rw [← Int.dvd_gcd_mul_iff_dvd_mul, Int.gcd_comm, gb] at this; simpa using this
  have h2 : a.2 = b.2 := Int.dvd_antisymm (by omega) (by omega) d1 d2
  rw [h2] at h1
  have h3 := Int.eq_of_mul_eq_mul_right (by omega) h1
  exact Prod.ext h3 h2

theorem fr_pos {a b : Int} (hb : 0 < b) : 0 < (fr a b).2 := by have := fr_den hb (Int.le_refl b) (a := a); omega
theorem fr_mul {a b : Int} (hb : 0 < b) : (fr a b).1 * (Int.gcd a b) = a ∧ (fr a b).2 * (Int.gcd a b) = b := by
  have hg := gcd_pos a b hb
  exact ⟨Int.tdiv_mul_cancel (Int.gcd_dvd_left ..), Int.tdiv_mul_cancel (Int.gcd_dvd_right ..)⟩
theorem fr_gcd {a b : Int} (hb : 0 < b) : Int.gcd (fr a b).1 (fr a b).2 = 1 := by
  have hg := gcd_pos a b hb
  obtain ⟨h1, h2⟩ := fr_mul (a := a) hb
  have h3 : Int.gcd ((fr a b).1 * (Int.gcd a b)) ((fr a b).2 * (Int.gcd a b)) = Int.gcd a b := by rw [h1, h2]
  rw [Int.gcd_mul_right] at h3
  have h4 : 0 < Int.gcd a b := by omega
  simp at h3
  exact Nat.eq_of_mul_eq_mul_right h4 (by omega)
theorem rq_fr {a b : Int} (hb : 0 < b) : rq (fr a b) = (a : Rat) / (b : Rat) := by
  have hg := gcd_pos a b hb
  obtain ⟨h1, h2⟩ := fr_mul (a := a) hb
  have hp := fr_pos (a := a) hb
  have h3 : rq (fr a b) = rq (a, b) := by
    refine Rat.le_antisymm ((rq_le hp hb).2 ?_) ((rq_le hb hp).2 ?_)
    · dsimp only
      have : (fr a b).1 * b = (fr a b).1 * ((fr a b).2 * (Int.gcd a b)) := by rw [h2]
      have h4 : a * (fr a b).2 = (fr a b).1 * (Int.gcd a b) * (fr a b).2 := by rw [h1]
      rw [this, h4]
      exact Int.le_of_eq (by grind)
    · dsimp only
      have : (fr a b).1 * b = (fr a b).1 * ((fr a b).2 * (Int.gcd a b)) := by rw [h2]
      have h4 : a * (fr a b).2 = (fr a b).1 * (Int.gcd a b) * (fr a b).2 := by rw [h1]
      rw [this, h4]
      exact Int.le_of_eq (by grind)
  exact h3

/-! ### The tightest bound -/

/-- A bound as a number: the less, the tighter. -/
def tq (s : Int) (x : Int × Int) : Rat := if s = 1 then rq x else - rq x
theorem tighter_tq {s : Int} {a b : Int × Int} (ha : 0 < a.2) (hb : 0 < b.2) : tighterF s a b = decide (tq s a < tq s b) := by
  unfold tighterF tq
  split
  · exact decide_eq_decide.2 (rq_lt ha hb).symm
  · exact decide_eq_decide.2 ((rq_lt hb ha).symm.trans Rat.neg_lt_neg_iff.symm)

theorem sideB_pos {s : Int} {b : Bd} (h1 : 0 < b.1.2) (h2 : 0 < b.2.2) : 0 < (sideB s b).2 := by unfold sideB; split <;> assumption

def BestP (B : List ((Int × Int) × Bd × Nat)) (s : Int) (a : Option (Int × Int)) (S : List (Int × Int)) : Prop := match a with
  | none => ∀ q ∈ S, getB B q = none
  | some p0 => p0 ∈ S ∧ ∃ b0, getB B p0 = some b0 ∧ ∀ q ∈ S, ∀ bq, getB B q = some bq → tq s (sideB s b0) ≤ tq s (sideB s bq)

theorem BestP.step {B : List ((Int × Int) × Bd × Nat)} (hB : OkB B) {s : Int} {a : Option (Int × Int)} {S : List (Int × Int)} (h : BestP B s a S) (x : Int × Int) : BestP B s (stepT B s a x) (S ++ [x]) := by
  have hpos : ∀ {p b}, getB B p = some b → 0 < (sideB s b).2 := fun {p b} hb => by
    obtain ⟨_, h2, _, h4⟩ := hB p b hb
    exact sideB_pos (by omega) (by omega)
  cases hx : getB B x with
  | none =>
    rw [stepT_none hx]
    cases a with
    | none =>
      intro q hq
      rcases List.mem_append.1 hq with hq | hq
      · exact h q hq
      · rw [List.mem_singleton.1 hq]; exact hx
    | some p0 =>
      obtain ⟨h1, b0, h2, h3⟩ := h
      refine ⟨List.mem_append_left _ h1, b0, h2, fun q hq bq hbq => ?_⟩
      rcases List.mem_append.1 hq with hq | hq
      · exact h3 q hq bq hbq
      · rw [List.mem_singleton.1 hq, hx] at hbq; cases hbq
  | some bx =>
    rw [stepT_some hx]
    cases a with
    | none =>
      refine ⟨List.mem_append_right _ (List.mem_singleton.2 rfl), bx, hx, fun q hq bq hbq => ?_⟩
      rcases List.mem_append.1 hq with hq | hq
      · rw [h q hq] at hbq; cases hbq
      · rw [List.mem_singleton.1 hq, hx] at hbq; cases hbq; exact Rat.le_refl
    | some p0 =>
      obtain ⟨h1, b0, h2, h3⟩ := h
      have he := betterB_eq (s := s) hx h2
      rw [tighter_tq (hpos hx) (hpos h2)] at he
      by_cases hc : tq s (sideB s bx) < tq s (sideB s b0)
      · rw [decide_eq_true hc] at he
        rw [stepB_true he]
        refine ⟨List.mem_append_right _ (List.mem_singleton.2 rfl), bx, hx, fun q hq bq hbq => ?_⟩
        rcases List.mem_append.1 hq with hq | hq
        · exact Rat.le_trans (Rat.le_of_lt hc) (h3 q hq bq hbq)
        · rw [List.mem_singleton.1 hq, hx] at hbq; cases hbq; exact Rat.le_refl
      · rw [decide_eq_false hc] at he
        rw [stepB_false he]
        refine ⟨List.mem_append_left _ h1, b0, h2, fun q hq bq hbq => ?_⟩
        rcases List.mem_append.1 hq with hq | hq
        · exact h3 q hq bq hbq
        · rw [List.mem_singleton.1 hq, hx] at hbq; cases hbq; exact Rat.not_lt.1 hc

theorem tightL_best {B : List ((Int × Int) × Bd × Nat)} (hB : OkB B) (s : Int) (l : List (Int × Int)) : BestP B s (tightL B s l) l := by
  have : ∀ (l : List (Int × Int)) (a : Option (Int × Int)) (S : List (Int × Int)), BestP B s a S → BestP B s (l.foldl (stepT B s) a) (S ++ l) := by
    intro l
    induction l with
    | nil => intro a S h; simpa using h
    | cons x l ih =>
      intro a S h
      have := ih _ _ (h.step hB x)
      rwa [List.append_assoc, List.singleton_append] at this
  exact this l none [] (fun q hq => by cases hq)

/-! ### The card of a star -/

theorem getB_card {lo hi : Int} {l : List E} {p : Int × Int} : getB (cardL lo hi l) p = if p ∈ pairsL l.length ∧ keepE lo hi (p, bndOf lo hi l p, 0) = true then some (bndOf lo hi l p) else none := by
  have hk : ∀ k, keepE lo hi (p, bndOf lo hi l p, k) = keepE lo hi (p, bndOf lo hi l p, 0) := fun k => rfl
  have hmem : ∀ x, x ∈ cardL lo hi l ↔ (∃ k, (pairsL l.length)[k]? = some x.1 ∧ x = (x.1, bndOf lo hi l x.1, k)) ∧ keepE lo hi x = true := by
    intro x
    unfold cardL
    rw [List.mem_filter]
    refine and_congr ⟨fun h => ?_, fun ⟨k, h1, h2⟩ => ?_⟩ Iff.rfl
    · unfold fullL insL at h
      rw [List.take_length] at h
      obtain ⟨y, hy, rfl⟩ := List.mem_map.1 h
      exact ⟨y.2, List.mem_zipIdx_iff_getElem?.1 hy, rfl⟩
    · rw [h2]; exact List.mem_of_getElem? (fullL_get h1)
  split
  · rename_i h
    obtain ⟨k, hkp⟩ := List.mem_iff_getElem?.1 h.1
    unfold getB
    cases hf : (cardL lo hi l).find? (fun x => decide (p = x.1)) with
    | none =>
      have := List.find?_eq_none.1 hf (p, bndOf lo hi l p, k) ((hmem _).2 ⟨⟨k, hkp, rfl⟩, by rw [hk]; exact h.2⟩)
      simp at this
    | some x =>
      have h1 : p = x.1 := of_decide_eq_true (by simpa using List.find?_some hf)
      obtain ⟨⟨k', h2, h3⟩, _⟩ := (hmem x).1 (List.mem_of_find?_eq_some hf)
      rw [Option.map_some, h3, h1]
  · rename_i h
    unfold getB
    rw [Option.map_eq_none_iff, List.find?_eq_none]
    intro x hx hc
    have h1 : p = x.1 := of_decide_eq_true hc
    obtain ⟨⟨k', h2, h3⟩, h4⟩ := (hmem x).1 hx
    refine h ⟨by rw [h1]; exact List.mem_of_getElem? h2, ?_⟩
    rw [h3, ← h1] at h4
    exact h4

theorem cardL_ok {lo hi : Int} {l : List E} (hS : OkS lo hi l) : OkB (cardL lo hi l) := by
  intro p b hb
  rw [getB_card] at hb
  split at hb
  · rename_i h; cases hb; exact bndOf_bd hS h.1
  · cases hb

/-- The tightest of all bounds. -/
structure Tight (lo hi : Int) (l : List E) (s : Int) (p0 : Int × Int) : Prop where
  tight : tightL (cardL lo hi l) s (pairsL l.length) = some p0
  get : getB (cardL lo hi l) p0 = some (bndOf lo hi l p0)
  mem : p0 ∈ pairsL l.length
  best : ∀ q ∈ pairsL l.length, tq s (sideB s (bndOf lo hi l p0)) ≤ tq s (sideB s (bndOf lo hi l q))

theorem exists_tight {lo hi : Int} {l : List E} (hS : OkS lo hi l) (s : Int) (hs : s = 0 ∨ s = 1) : ∃ p0, Tight lo hi l s p0 := by
  have hb := tightL_best (cardL_ok hS) s (pairsL l.length)
  have ha : getB (cardL lo hi l) (-1, -1) = some ((lo, 1), (hi, 1)) := by
    rw [getB_card, if_pos ⟨pairsL_mem.2 (.inl rfl), rfl⟩]; rfl
  cases ht : tightL (cardL lo hi l) s (pairsL l.length) with
  | none =>
    rw [ht] at hb
    have := hb (-1, -1) (pairsL_mem.2 (.inl rfl))
    rw [ha] at this; cases this
  | some p0 =>
    rw [ht] at hb
    obtain ⟨h1, b0, h2, h3⟩ := hb
    have h2' := h2
    rw [getB_card] at h2'
    split at h2'
    · cases h2'
      refine ⟨p0, ht, h2, h1, fun q hq => ?_⟩
      cases hk : keepE lo hi (q, bndOf lo hi l q, 0) with
      | true => exact h3 q hq _ (by rw [getB_card, if_pos ⟨hq, hk⟩])
      | false =>
        refine Rat.le_trans (h3 (-1, -1) (pairsL_mem.2 (.inl rfl)) _ ha) ?_
        obtain ⟨o1, o2, o3, o4⟩ := bndOf_bd hS hq
        unfold keepE at hk
        simp only [Bool.or_eq_false_iff] at hk
        obtain ⟨⟨_, k1⟩, k2⟩ := hk
        rw [tighter_tq (by omega) (Int.zero_lt_one : (0 : Int) < 1)] at k1 k2
        have k1 := of_decide_eq_false k1
        have k2 := of_decide_eq_false k2
        rcases hs with rfl | rfl
        · exact Rat.not_lt.1 k1
        · exact Rat.not_lt.1 k2
    · cases h2'

end Go.Proofs.D

namespace Go.Proofs.D
open Go.As
set_option maxRecDepth 20000
set_option linter.unusedVariables false
set_option linter.unusedSimpArgs false

theorem newCard_ok (h : H) (lo hi : Int) (l : List E) (hS : OkS lo hi l) (sv : V) (hs : SlC h (entVs l) l.length sv) :
    CallOk Try.prog 71 [starV lo hi sv, .fn 72 [] []] h (.agg [.int .i64 lo, .int .i64 hi, sv, .map h.n]) (addBs h [.map (mapB (cardL lo hi l)) (pairsL l.length).length]) := by
  obtain ⟨vo, svC, hsv, hca, hvw⟩ := hs.view 0
  obtain ⟨cap, ex, rfl⟩ := Sv.pos hsv hS.one
  exact CallOk.of_new (newCard_try lo hi l hS cap ex) (viewMc1 entVs_bare hvw) (.cons (CaL.agg (.cons (.bare rfl) (.cons (.bare rfl) (.cons (hca _ rfl) .nil)))) (.cons (.lt0 rfl) .nil))
    (ShV.agg (.cons (.bare rfl) (.cons (.bare rfl) (.cons (.old (hca _ rfl) rfl) (.cons (.map (i := 0) (Nat.lt_succ_self 0) rfl rfl) .nil))))) rfl
    (fun i b hi => by
      cases i with
      | zero => simp at hi; subst hi; exact ⟨_, rfl, rfl, .map (fun e he => by obtain ⟨x, _, rfl⟩ := List.mem_map.1 he; rfl)⟩
      | succ i => simp at hi)

theorem newCard_W {X : List Nat} {K : V → H → Prop} {h : H} (lo hi : Int) (l : List E) (hS : OkS lo hi l) (sv : V) (hs : SlC h (entVs l) l.length sv)
    (hK : addNP h (fun _ => [.map (mapB (cardL lo hi l)) (pairsL l.length).length]) fun N h' => K (.agg [.int .i64 lo, .int .i64 hi, sv, .map N]) h') : CallW Try.prog X 71 [starV lo hi sv, .fn 72 [] []] h K :=
  CallW.of_new (vC := fun N => .agg [.int .i64 lo, .int .i64 hi, sv, .map N]) (news := fun _ => [.map (mapB (cardL lo hi l)) (pairsL l.length).length]) (newCard_ok h lo hi l hS sv hs) hK

def tgt (lo hi : Int) (l : List E) (s : Int) : Int × Int := (tightL (cardL lo hi l) s (pairsL l.length)).getD (0, 0)
theorem tgt_ok {lo hi : Int} {l : List E} (hS : OkS lo hi l) {s : Int} (hs : s = 0 ∨ s = 1) : Tight lo hi l s (tgt lo hi l s) := by
  obtain ⟨p0, hp⟩ := exists_tight hS s hs
  have : tgt lo hi l s = p0 := by unfold tgt; rw [hp.tight]; rfl
  rw [this]; exact hp
/-- The ends of the rate. -/
def loQ (lo hi : Int) (l : List E) : Int × Int := (bndOf lo hi l (tgt lo hi l 0)).1
def hiQ (lo hi : Int) (l : List E) : Int × Int := (bndOf lo hi l (tgt lo hi l 1)).2
def hasM (lo hi : Int) (l : List E) : Bool := !decide ((hiQ lo hi l).1 * (loQ lo hi l).2 < (loQ lo hi l).1 * (hiQ lo hi l).2)
def staErr (lo hi : Int) (l : List E) : Int := if starErr lo hi l = 0 then (if hasM lo hi l then 0 else 17) else starErr lo hi l

theorem span2_ok (h : H) (lo hi : Int) (l : List E) (hS : OkS lo hi l) (sv : V) (hsv : SlC h (entVs l) l.length sv) (m : Nat) (clock : Nat) (hm : h.get m = some (.map (mapB (cardL lo hi l)) clock)) :
   CallOk Try.prog 73 [.agg [.int .i64 lo, .int .i64 hi, sv, .map m]] h (.agg (bL (loQ lo hi l, hiQ lo hi l))) h :=
  have t0 := tgt_ok hS (.inl rfl)
  have t1 := tgt_ok hS (.inr rfl)
  span_ok h lo hi l.length (by have := hS.most; omega) hS.one _ entVs_bare sv hsv _ clock (cardL_ok hS) m hm _ _ _ _ t0.tight t1.tight t0.get t1.get

theorem loQ_bd {lo hi : Int} {l : List E} (hS : OkS lo hi l) : (-20000 ≤ (loQ lo hi l).1 ∧ (loQ lo hi l).1 ≤ 20000) ∧ 1 ≤ (loQ lo hi l).2 ∧ (loQ lo hi l).2 ≤ 200 :=
  have h := bndOf_bd hS (tgt_ok hS (.inl rfl)).mem; ⟨h.1, h.2.1⟩
theorem hiQ_bd {lo hi : Int} {l : List E} (hS : OkS lo hi l) : (-20000 ≤ (hiQ lo hi l).1 ∧ (hiQ lo hi l).1 ≤ 20000) ∧ 1 ≤ (hiQ lo hi l).2 ∧ (hiQ lo hi l).2 ≤ 200 :=
  have h := bndOf_bd hS (tgt_ok hS (.inr rfl)).mem; ⟨h.2.2.1, h.2.2.2⟩

theorem clash2_ok (h : H) (lo hi : Int) (l : List E) (hS : OkS lo hi l) : CallOk Try.prog 74 [.agg (bL (loQ lo hi l, hiQ lo hi l))] h (.bool (!hasM lo hi l)) h := by
  have h1 := loQ_bd hS
  have h2 := hiQ_bd hS
  have := clash_ok h (loQ lo hi l, hiQ lo hi l) (InR_mul h1.1 h2.2) (InR_mul h2.1 h1.2)
  unfold hasM
  rwa [Bool.not_not]

theorem agreed_bad (h : H) (lo hi : Int) (l : List E) (sv : V) (hl : l.length ≤ 9223372036854775807) (hs : SlC h (entVs l) l.length sv) (he : staErr lo hi l ≠ 0) :
    CallOk Try.prog 68 [starV lo hi sv] h (.tup [.agg [.int .i64 0, .int .i64 0, .nils, .nilm], .int .i64 (staErr lo hi l)]) h := by
  obtain ⟨vo, svC, hsv, hca, hvw⟩ := hs.view 0
  refine CallOk.run Try.func68 rfl rfl (argsC := [starV lo hi svC]) (Nat.le_of_ble_eq_true rfl) [vo] (.cons (CaL.agg (.cons (.bare rfl) (.cons (.bare rfl) (.cons (hca _ rfl) .nil)))) .nil) (viewMc1 entVs_bare hvw) rfl (WpR.of_vc ?_)
  have hBare := @entVs_bare l
  cases hsv with
  | nil h0 =>
    have e1 : starErr lo hi l = 6 := by unfold starErr; rw [if_pos (by omega)]
    (conv => whnf); (repeat' (first | ((with_reducible refine ifb_mk (fun hc => ?_) (fun hc => ?_)) <;> ((try simp only [decide_eq_true_eq, decide_eq_false_iff_not, Bool.not_eq_true', Bool.not_eq_false', Int.not_lt, Int.not_le, ne_eq, Decidable.not_not, beq_iff_eq, List.cons.injEq, and_true] at hc); (first | (exfalso; omega) | conv => whnf))) | ((with_reducible refine And.intro True.intro ?_); conv => whnf) | ((with_reducible refine CallX.all ?_); refine CallW.of_ok (checkStar_ok _ lo hi l _ hl (SlC.none h0)) ?_; conv => whnf) | ((with_reducible refine And.intro ?hh ?_); (case hh => (unfold InR; (try dsimp only); omega)); conv => whnf) | ((with_reducible refine And.intro ?hh ?_); (case hh => ((try dsimp only); omega)); conv => whnf) | ((with_reducible refine And.intro ?hh ?_); (case hh => ((conv => whnf); (repeat' (first | exact True.intro | rfl | refine And.intro ?_ ?_)); done)); conv => whnf) | fail))
    (refine ⟨[], ?_, rfl, rfl, trivial, (by (repeat' (first | exact True.intro | rfl | refine And.intro ?_ ?_)))⟩; simp only [renV, renL]; grind [staErr])
  | @sl cap ex =>
  (conv => whnf); (repeat' (first | ((with_reducible refine ifb_mk (fun hc => ?_) (fun hc => ?_)) <;> ((try simp only [decide_eq_true_eq, decide_eq_false_iff_not, Bool.not_eq_true', Bool.not_eq_false', Int.not_lt, Int.not_le, ne_eq, Decidable.not_not, beq_iff_eq, List.cons.injEq, and_true] at hc); (first | (exfalso; omega) | conv => whnf))) | ((with_reducible refine And.intro True.intro ?_); conv => whnf) | ((with_reducible refine CallX.all ?_); refine CallW.of_ok (checkStar_ok _ lo hi l _ hl (SlC.own rfl)) ?_; conv => whnf) | ((with_reducible refine And.intro ?hh ?_); (case hh => (unfold InR; (try dsimp only); omega)); conv => whnf) | ((with_reducible refine And.intro ?hh ?_); (case hh => ((try dsimp only); omega)); conv => whnf) | ((with_reducible refine And.intro ?hh ?_); (case hh => ((conv => whnf); (repeat' (first | exact True.intro | rfl | refine And.intro ?_ ?_)); done)); conv => whnf) | fail))
  · (refine ⟨[], ?_, rfl, rfl, trivial, (by (repeat' (first | exact True.intro | rfl | refine And.intro ?_ ?_)))⟩; simp only [renV, renL]; grind [staErr])
  have hS := starErr_ok hc
  have hm : hasM lo hi l = false := by unfold staErr at he; grind
  (conv => whnf); (repeat' (first | ((with_reducible refine ifb_mk (fun hc => ?_) (fun hc => ?_)) <;> ((try simp only [decide_eq_true_eq, decide_eq_false_iff_not, Bool.not_eq_true', Bool.not_eq_false', Int.not_lt, Int.not_le, ne_eq, Decidable.not_not, beq_iff_eq, List.cons.injEq, and_true] at hc); (first | (exfalso; omega) | conv => whnf))) | ((with_reducible refine And.intro True.intro ?_); conv => whnf) | ((with_reducible refine CallX.all ?_); refine newCard_W lo hi l hS _ (SlC.own rfl) ?_; conv => whnf) | ((with_reducible refine CallX.all ?_); refine CallW.of_ok (span2_ok _ lo hi l hS _ (SlC.own rfl) _ _ rfl) ?_; conv => whnf) | ((with_reducible refine CallX.all ?_); refine CallW.of_ok (clash2_ok _ lo hi l hS) ?_; conv => whnf) | ((with_reducible refine And.intro ?hh ?_); (case hh => (unfold InR; (try dsimp only); omega)); conv => whnf) | ((with_reducible refine And.intro ?hh ?_); (case hh => ((try dsimp only); omega)); conv => whnf) | ((with_reducible refine And.intro ?hh ?_); (case hh => ((conv => whnf); (repeat' (first | exact True.intro | rfl | refine And.intro ?_ ?_)); done)); conv => whnf) | fail))
  · (refine ⟨[], ?_, rfl, rfl, trivial, (by (repeat' (first | exact True.intro | rfl | refine And.intro ?_ ?_)))⟩; simp only [renV, renL]; grind [staErr])
  · exfalso; grind

theorem agreed_ok (h : H) (lo hi : Int) (l : List E) (sv : V) (hl : l.length ≤ 9223372036854775807) (hs : SlC h (entVs l) l.length sv) (he : staErr lo hi l = 0) :
    CallOk Try.prog 68 [starV lo hi sv] h (.tup [.agg [.int .i64 lo, .int .i64 hi, sv, .map h.n], .int .i64 0]) (addBs h [.map (mapB (cardL lo hi l)) (pairsL l.length).length]) := by
  have h0 : starErr lo hi l = 0 ∧ hasM lo hi l = true := by unfold staErr at he; grind
  have hS := starErr_ok h0.1
  obtain ⟨vo, svC, hsv, hca, hvw⟩ := hs.view 0
  obtain ⟨cap, ex, rfl⟩ := Sv.pos hsv hS.one
  have hBare := @entVs_bare l
  refine CallOk.runN Try.func68 rfl rfl (argsC := [starV lo hi (.sl 0 0 l.length cap ex)]) (fun N => .tup [.agg [.int .i64 lo, .int .i64 hi, .sl 0 0 l.length cap ex, .map N], .int .i64 0]) (fun _ => [.map (mapB (cardL lo hi l)) (pairsL l.length).length]) (Nat.le_of_ble_eq_true rfl) [vo] (.cons (CaL.agg (.cons (.bare rfl) (.cons (.bare rfl) (.cons (hca _ rfl) .nil)))) .nil) (viewMc1 entVs_bare hvw)
    (ShV.tup (.cons (ShV.agg (.cons (.bare rfl) (.cons (.bare rfl) (.cons (.old (hca _ rfl) rfl) (.cons (.map (i := 0) (Nat.lt_succ_self 0) rfl rfl) .nil))))) (.cons (.bare rfl) .nil))) rfl
    (fun i b hi => by
      cases i with
      | zero => simp at hi; subst hi; exact ⟨_, rfl, rfl, .map (fun e he => by obtain ⟨x, _, rfl⟩ := List.mem_map.1 he; rfl)⟩
      | succ i => simp at hi) (WpR.of_vc ?_)
  (conv => whnf); (repeat' (first | ((with_reducible refine ifb_mk (fun hc => ?_) (fun hc => ?_)) <;> ((try simp only [decide_eq_true_eq, decide_eq_false_iff_not, Bool.not_eq_true', Bool.not_eq_false', Int.not_lt, Int.not_le, ne_eq, Decidable.not_not, beq_iff_eq, List.cons.injEq, and_true] at hc); (first | (exfalso; omega) | conv => whnf))) | ((with_reducible refine And.intro True.intro ?_); conv => whnf) | ((with_reducible refine CallX.all ?_); refine CallW.of_ok (checkStar_ok _ lo hi l _ hl (SlC.own rfl)) ?_; conv => whnf) | ((with_reducible refine CallX.all ?_); refine newCard_W lo hi l hS _ (SlC.own rfl) ?_; conv => whnf) | ((with_reducible refine CallX.all ?_); refine CallW.of_ok (span2_ok _ lo hi l hS _ (SlC.own rfl) _ _ rfl) ?_; conv => whnf) | ((with_reducible refine CallX.all ?_); refine CallW.of_ok (clash2_ok _ lo hi l hS) ?_; conv => whnf) | ((with_reducible refine And.intro ?hh ?_); (case hh => (unfold InR; (try dsimp only); omega)); conv => whnf) | ((with_reducible refine And.intro ?hh ?_); (case hh => ((try dsimp only); omega)); conv => whnf) | ((with_reducible refine And.intro ?hh ?_); (case hh => ((conv => whnf); (repeat' (first | exact True.intro | rfl | refine And.intro ?_ ?_)); done)); conv => whnf) | fail))
  · exfalso; grind
  · refine ⟨[3], rfl, rfl, rfl, ⟨⟨_, rfl, rfl, SubQ.same (n := 0) (Y := []) (fun i hi _ => absurd hi (Nat.not_lt_zero _)) ltB_mapB (avB_nil _) rfl⟩, ltB_mapB, rfl, trivial⟩, (by (repeat' (first | exact True.intro | rfl | refine And.intro ?_ ?_)))⟩
theorem agreed_W {X : List Nat} {K : V → H → Prop} {h : H} (lo hi : Int) (l : List E) (hl : l.length ≤ 9223372036854775807) (he : staErr lo hi l = 0) (sv : V) (hs : SlC h (entVs l) l.length sv)
    (hK : addNP h (fun _ => [.map (mapB (cardL lo hi l)) (pairsL l.length).length]) fun N h' => K (.tup [.agg [.int .i64 lo, .int .i64 hi, sv, .map N], .int .i64 0]) h') : CallW Try.prog X 68 [starV lo hi sv] h K :=
  CallW.of_new (vC := fun N => .tup [.agg [.int .i64 lo, .int .i64 hi, sv, .map N], .int .i64 0]) (news := fun _ => [.map (mapB (cardL lo hi l)) (pairsL l.length).length]) (agreed_ok h lo hi l sv hl hs he) hK

/-! ### What is exported -/

def boundR (lo hi : Int) (l : List E) (high : Bool) : (Int × Int) × Int := if staErr lo hi l = 0 then (tgt lo hi l (sideN high), 0) else ((0, 0), staErr lo hi l)

theorem staErr_OkS {lo hi : Int} {l : List E} (h : staErr lo hi l = 0) : OkS lo hi l ∧ hasM lo hi l = true := by
  have h0 : starErr lo hi l = 0 ∧ hasM lo hi l = true := by unfold staErr at h; grind
  exact ⟨starErr_ok h0.1, h0.2⟩
theorem tightest2_ok (h : H) (lo hi : Int) (l : List E) (hS : OkS lo hi l) (sv : V) (hsv : SlC h (entVs l) l.length sv) (m : Nat) (clock : Nat) (hm : h.get m = some (.map (mapB (cardL lo hi l)) clock)) (s : Int) (hs : s = 0 ∨ s = 1) :
    CallOk Try.prog 69 [.agg [.int .i64 lo, .int .i64 hi, sv, .map m], .int .i64 s] h (pV (tgt lo hi l s)) h :=
  tightest_ok h lo hi l.length (by have := hS.most; omega) hS.one _ entVs_bare sv hsv _ clock (cardL_ok hS) m hm s hs

theorem bound_ok (h : H) (lo hi : Int) (l : List E) (sv : V) (high : Bool) (hl : l.length ≤ 9223372036854775807) (hs : SlC h (entVs l) l.length sv) :
    CallOk Try.prog 19 [starV lo hi sv, .bool high] h (.tup [.int .i64 (boundR lo hi l high).1.1, .int .i64 (boundR lo hi l high).1.2, .int .i64 (boundR lo hi l high).2]) h := by
  obtain ⟨vo, svC, hsv, hca, hvw⟩ := hs.view 0
  refine CallOk.run Try.func19 rfl rfl (argsC := [starV lo hi svC, .bool high]) (Nat.le_of_ble_eq_true rfl) [vo] (.cons (CaL.agg (.cons (.bare rfl) (.cons (.bare rfl) (.cons (hca _ rfl) .nil)))) (CaL.lt0 rfl)) (viewMc1 entVs_bare hvw) rfl (WpR.of_vc ?_)
  have hBare := @entVs_bare l
  cases hsv with
  | nil h0 =>
    have e1 : starErr lo hi l = 6 := by unfold starErr; rw [if_pos (by omega)]
    have e2 : staErr lo hi l ≠ 0 := by unfold staErr; grind
    (conv => whnf); (repeat' (first | ((with_reducible refine ifb_mk (fun hc => ?_) (fun hc => ?_)) <;> ((try simp only [decide_eq_true_eq, decide_eq_false_iff_not, Bool.not_eq_true', Bool.not_eq_false', Int.not_lt, Int.not_le, ne_eq, Decidable.not_not, beq_iff_eq, List.cons.injEq, and_true] at hc); (first | (exfalso; omega) | conv => whnf))) | ((with_reducible refine And.intro True.intro ?_); conv => whnf) | ((with_reducible refine CallX.all ?_); refine CallW.of_ok (agreed_bad _ lo hi l _ hl (SlC.none h0) e2) ?_; conv => whnf) | ((with_reducible refine And.intro ?hh ?_); (case hh => (unfold InR; (try dsimp only); omega)); conv => whnf) | ((with_reducible refine And.intro ?hh ?_); (case hh => ((try dsimp only); omega)); conv => whnf) | ((with_reducible refine And.intro ?hh ?_); (case hh => ((conv => whnf); (repeat' (first | exact True.intro | rfl | refine And.intro ?_ ?_)); done)); conv => whnf) | fail))
    (refine ⟨[], ?_, rfl, rfl, trivial, (by (repeat' (first | exact True.intro | rfl | refine And.intro ?_ ?_)))⟩; simp only [renV, renL]; grind [boundR])
  | @sl cap ex =>
  by_cases he : staErr lo hi l = 0
  · have hS := (staErr_OkS he).1
    have k0 := fun h' sv' hs' m hm => tightest2_ok h' lo hi l hS sv' hs' m (pairsL l.length).length hm (if high = true then 1 else 0) (by cases high <;> simp)
    (conv => whnf); (repeat' (first | ((with_reducible refine ifb_mk (fun hc => ?_) (fun hc => ?_)) <;> ((try simp only [decide_eq_true_eq, decide_eq_false_iff_not, Bool.not_eq_true', Bool.not_eq_false', Int.not_lt, Int.not_le, ne_eq, Decidable.not_not, beq_iff_eq, List.cons.injEq, and_true] at hc); (first | (exfalso; omega) | conv => whnf))) | ((with_reducible refine And.intro True.intro ?_); conv => whnf) | ((with_reducible refine CallX.all ?_); refine agreed_W lo hi l hl he _ (SlC.own rfl) ?_; conv => whnf) | ((with_reducible refine WpR.draw (id := 4) mixed [0, 1, 4, 2, 3, 5] [0, 0, 2, 7, 0, 31] ?hh ?_); (case hh => kernel_rfl); conv => whnf) | ((with_reducible refine grd_ex ?_); refine ex_ok (sideOf_ok _ _) ?_; conv => whnf) | ((with_reducible refine grd_ex ?_); refine ex_ok (k0 _ _ (SlC.own rfl) _ rfl) ?_; conv => whnf) | ((with_reducible refine WpR.draw (id := 5) mixed [0, 1, 2, 3, 4, 5, 6] [0, 1, 0, 4, 3, 31, 63] ?hh ?_); (case hh => kernel_rfl); conv => whnf) | ((with_reducible refine And.intro ?hh ?_); (case hh => (unfold InR; (try dsimp only); omega)); conv => whnf) | ((with_reducible refine And.intro ?hh ?_); (case hh => ((try dsimp only); omega)); conv => whnf) | ((with_reducible refine And.intro ?hh ?_); (case hh => ((conv => whnf); (repeat' (first | exact True.intro | rfl | refine And.intro ?_ ?_)); done)); conv => whnf) | fail))
    (refine ⟨[], ?_, rfl, rfl, trivial, (by (repeat' (first | exact True.intro | rfl | refine And.intro ?_ ?_)))⟩; simp only [renV, renL]; grind [boundR, sideN])
  · (conv => whnf); (repeat' (first | ((with_reducible refine ifb_mk (fun hc => ?_) (fun hc => ?_)) <;> ((try simp only [decide_eq_true_eq, decide_eq_false_iff_not, Bool.not_eq_true', Bool.not_eq_false', Int.not_lt, Int.not_le, ne_eq, Decidable.not_not, beq_iff_eq, List.cons.injEq, and_true] at hc); (first | (exfalso; omega) | conv => whnf))) | ((with_reducible refine And.intro True.intro ?_); conv => whnf) | ((with_reducible refine CallX.all ?_); refine CallW.of_ok (agreed_bad _ lo hi l _ hl (SlC.own rfl) he) ?_; conv => whnf) | ((with_reducible refine And.intro ?hh ?_); (case hh => (unfold InR; (try dsimp only); omega)); conv => whnf) | ((with_reducible refine And.intro ?hh ?_); (case hh => ((try dsimp only); omega)); conv => whnf) | ((with_reducible refine And.intro ?hh ?_); (case hh => ((conv => whnf); (repeat' (first | exact True.intro | rfl | refine And.intro ?_ ?_)); done)); conv => whnf) | fail))
    (refine ⟨[], ?_, rfl, rfl, trivial, (by (repeat' (first | exact True.intro | rfl | refine And.intro ?_ ?_)))⟩; simp only [renV, renL]; grind [boundR])
end Go.Proofs.D

namespace Go.Proofs.D
open Go.As
set_option maxRecDepth 20000
set_option linter.unusedVariables false
set_option linter.unusedSimpArgs false

/-- What CheckClash says. -/
def chkC (lo hi : Int) (l : List E) (p q : Int × Int) : Int :=
  if starErr lo hi l = 0 then (if isPairB l.length p.1 p.2 && isPairB l.length q.1 q.2 then (if (bndOf lo hi l q).2.1 * (bndOf lo hi l p).1.2 < (bndOf lo hi l p).1.1 * (bndOf lo hi l q).2.2 then 0 else 14) else 2) else starErr lo hi l

theorem chkC_eq {lo hi : Int} {l : List E} {p q : Int × Int} (h : starErr lo hi l = 0) : chkC lo hi l p q = if isPairB l.length p.1 p.2 && isPairB l.length q.1 q.2 then (if (bndOf lo hi l q).2.1 * (bndOf lo hi l p).1.2 < (bndOf lo hi l p).1.1 * (bndOf lo hi l q).2.2 then 0 else 14) else 2 := by
  unfold chkC; rw [if_pos h]
theorem chkB_bad {lo hi : Int} {l : List E} {high : Bool} {i j : Int} (h : starErr lo hi l ≠ 0) : chkB lo hi l high i j = ((0, 0), starErr lo hi l) := by unfold chkB; rw [if_neg h]
theorem chkB_arg {lo hi : Int} {l : List E} {high : Bool} {i j : Int} (h : starErr lo hi l = 0) (hp : isPairB l.length i j = false) : chkB lo hi l high i j = ((0, 0), 2) := by unfold chkB; rw [if_pos h, hp]; rfl
theorem chkB_good {lo hi : Int} {l : List E} {high : Bool} {i j : Int} (h : starErr lo hi l = 0) (hp : isPairB l.length i j = true) : chkB lo hi l high i j = (sideB (sideN high) (bndOf lo hi l (i, j)), 0) := by unfold chkB; rw [if_pos h, hp]; rfl

theorem sideB_lo (b : Bd) : sideB (sideN false) b = b.1 := rfl
theorem sideB_hi (b : Bd) : sideB (sideN true) b = b.2 := rfl

theorem checkClash_ok (h : H) (lo hi : Int) (l : List E) (sv : V) (p q : Int × Int) (hl : l.length ≤ 9223372036854775807) (hs : SlC h (entVs l) l.length sv) :
    CallOk Try.prog 25 [starV lo hi sv, pV p, pV q] h (.int .i64 (chkC lo hi l p q)) h := by
  obtain ⟨vo, svC, hsv, hca, hvw⟩ := hs.view 0
  refine CallOk.run Try.func25 rfl rfl (argsC := [starV lo hi svC, pV p, pV q]) (Nat.le_of_ble_eq_true rfl) [vo] (.cons (CaL.agg (.cons (.bare rfl) (.cons (.bare rfl) (.cons (hca _ rfl) .nil)))) (CaL.lt0 rfl)) (viewMc1 entVs_bare hvw) rfl (WpR.of_vc ?_)
  have hBare := @entVs_bare l
  cases hsv with
  | nil h0 =>
    have e1 : starErr lo hi l = 6 := by unfold starErr; rw [if_pos (by omega)]
    have k0 := fun h' i j => checkBound_ok h' lo hi l .nils false i j hl (SlC.none h0)
    simp only [chkB_bad (lo := lo) (hi := hi) (l := l) (by omega : starErr lo hi l ≠ 0)] at k0
    (conv => whnf); (repeat' (first | ((with_reducible refine ifb_mk (fun hc => ?_) (fun hc => ?_)) <;> ((try simp only [decide_eq_true_eq, decide_eq_false_iff_not, Bool.not_eq_true', Bool.not_eq_false', Int.not_lt, Int.not_le, ne_eq, Decidable.not_not, beq_iff_eq, List.cons.injEq, and_true] at hc); (first | (exfalso; omega) | conv => whnf))) | ((with_reducible refine And.intro True.intro ?_); conv => whnf) | ((with_reducible refine CallX.all ?_); refine CallW.of_ok (k0 _ _ _) ?_; conv => whnf) | ((with_reducible refine And.intro ?hh ?_); (case hh => (unfold InR; (try dsimp only); omega)); conv => whnf) | ((with_reducible refine And.intro ?hh ?_); (case hh => ((try dsimp only); omega)); conv => whnf) | ((with_reducible refine And.intro ?hh ?_); (case hh => ((conv => whnf); (repeat' (first | exact True.intro | rfl | refine And.intro ?_ ?_)); done)); conv => whnf) | fail))
    all_goals (refine ⟨[], ?_, rfl, rfl, trivial, (by (repeat' (first | exact True.intro | rfl | refine And.intro ?_ ?_)))⟩; simp only [renV, renL]; grind [chkC])
  | @sl cap ex =>
  have k0 := fun (h' : H) sv' hs' => checkBound_ok h' lo hi l sv' false p.1 p.2 hl hs'
  have k1 := fun h' sv' hs' => checkBound_ok h' lo hi l sv' true q.1 q.2 hl hs'
  by_cases hc : starErr lo hi l = 0
  · have hS := starErr_ok hc
    have e1 := chkC_eq hc (p := p) (q := q)
    cases hp : isPairB l.length p.1 p.2 with
    | false =>
      simp only [chkB_arg hc hp] at k0
      (conv => whnf); (repeat' (first | ((with_reducible refine ifb_mk (fun hc => ?_) (fun hc => ?_)) <;> ((try simp only [decide_eq_true_eq, decide_eq_false_iff_not, Bool.not_eq_true', Bool.not_eq_false', Int.not_lt, Int.not_le, ne_eq, Decidable.not_not, beq_iff_eq, List.cons.injEq, and_true] at hc); (first | (exfalso; omega) | conv => whnf))) | ((with_reducible refine And.intro True.intro ?_); conv => whnf) | ((with_reducible refine CallX.all ?_); refine CallW.of_ok (k0 _ _ (SlC.own rfl)) ?_; conv => whnf) | ((with_reducible refine And.intro ?hh ?_); (case hh => (unfold InR; (try dsimp only); omega)); conv => whnf) | ((with_reducible refine And.intro ?hh ?_); (case hh => ((try dsimp only); omega)); conv => whnf) | ((with_reducible refine And.intro ?hh ?_); (case hh => ((conv => whnf); (repeat' (first | exact True.intro | rfl | refine And.intro ?_ ?_)); done)); conv => whnf) | fail))
      all_goals (refine ⟨[], ?_, rfl, rfl, trivial, (by (repeat' (first | exact True.intro | rfl | refine And.intro ?_ ?_)))⟩; simp only [renV, renL]; grind)
    | true =>
      simp only [chkB_good hc hp, sideB_lo] at k0
      cases hq : isPairB l.length q.1 q.2 with
      | false =>
        simp only [chkB_arg hc hq] at k1
        (conv => whnf); (repeat' (first | ((with_reducible refine ifb_mk (fun hc => ?_) (fun hc => ?_)) <;> ((try simp only [decide_eq_true_eq, decide_eq_false_iff_not, Bool.not_eq_true', Bool.not_eq_false', Int.not_lt, Int.not_le, ne_eq, Decidable.not_not, beq_iff_eq, List.cons.injEq, and_true] at hc); (first | (exfalso; omega) | conv => whnf))) | ((with_reducible refine And.intro True.intro ?_); conv => whnf) | ((with_reducible refine CallX.all ?_); refine CallW.of_ok (k0 _ _ (SlC.own rfl)) ?_; conv => whnf) | ((with_reducible refine CallX.all ?_); refine CallW.of_ok (k1 _ _ (SlC.own rfl)) ?_; conv => whnf) | ((with_reducible refine And.intro ?hh ?_); (case hh => (unfold InR; (try dsimp only); omega)); conv => whnf) | ((with_reducible refine And.intro ?hh ?_); (case hh => ((try dsimp only); omega)); conv => whnf) | ((with_reducible refine And.intro ?hh ?_); (case hh => ((conv => whnf); (repeat' (first | exact True.intro | rfl | refine And.intro ?_ ?_)); done)); conv => whnf) | fail))
        all_goals (refine ⟨[], ?_, rfl, rfl, trivial, (by (repeat' (first | exact True.intro | rfl | refine And.intro ?_ ?_)))⟩; simp only [renV, renL]; grind)
      | true =>
        simp only [chkB_good hc hq, sideB_hi] at k1
        obtain ⟨o1, o2, _, _⟩ := bndOf_bd hS (isPairB_mem.1 hp)
        obtain ⟨_, _, o3, o4⟩ := bndOf_bd hS (isPairB_mem.1 hq)
        (conv => whnf); (repeat' (first | ((with_reducible refine ifb_mk (fun hc => ?_) (fun hc => ?_)) <;> ((try simp only [decide_eq_true_eq, decide_eq_false_iff_not, Bool.not_eq_true', Bool.not_eq_false', Int.not_lt, Int.not_le, ne_eq, Decidable.not_not, beq_iff_eq, List.cons.injEq, and_true] at hc); (first | (exfalso; omega) | conv => whnf))) | ((with_reducible refine And.intro True.intro ?_); conv => whnf) | ((with_reducible refine CallX.all ?_); refine CallW.of_ok (k0 _ _ (SlC.own rfl)) ?_; conv => whnf) | ((with_reducible refine CallX.all ?_); refine CallW.of_ok (k1 _ _ (SlC.own rfl)) ?_; conv => whnf) | ((with_reducible refine CallX.all ?_); refine CallW.of_ok (compare_ok _ _ _ _ _ (InR_mul o1 o4) (InR_mul o3 o2)) ?_; conv => whnf) | ((with_reducible refine And.intro ?hh ?_); (case hh => (unfold InR; (try dsimp only); omega)); conv => whnf) | ((with_reducible refine And.intro ?hh ?_); (case hh => ((try dsimp only); omega)); conv => whnf) | ((with_reducible refine And.intro ?hh ?_); (case hh => ((conv => whnf); (repeat' (first | exact True.intro | rfl | refine And.intro ?_ ?_)); done)); conv => whnf) | fail))
        all_goals (refine ⟨[], ?_, rfl, rfl, trivial, (by (repeat' (first | exact True.intro | rfl | refine And.intro ?_ ?_)))⟩; simp only [renV, renL]; grind [cmp3])
  · simp only [chkB_bad hc] at k0
    (conv => whnf); (repeat' (first | ((with_reducible refine ifb_mk (fun hc => ?_) (fun hc => ?_)) <;> ((try simp only [decide_eq_true_eq, decide_eq_false_iff_not, Bool.not_eq_true', Bool.not_eq_false', Int.not_lt, Int.not_le, ne_eq, Decidable.not_not, beq_iff_eq, List.cons.injEq, and_true] at hc); (first | (exfalso; omega) | conv => whnf))) | ((with_reducible refine And.intro True.intro ?_); conv => whnf) | ((with_reducible refine CallX.all ?_); refine CallW.of_ok (k0 _ _ (SlC.own rfl)) ?_; conv => whnf) | ((with_reducible refine And.intro ?hh ?_); (case hh => (unfold InR; (try dsimp only); omega)); conv => whnf) | ((with_reducible refine And.intro ?hh ?_); (case hh => ((try dsimp only); omega)); conv => whnf) | ((with_reducible refine And.intro ?hh ?_); (case hh => ((conv => whnf); (repeat' (first | exact True.intro | rfl | refine And.intro ?_ ?_)); done)); conv => whnf) | fail))
    all_goals (refine ⟨[], ?_, rfl, rfl, trivial, (by (repeat' (first | exact True.intro | rfl | refine And.intro ?_ ?_)))⟩; simp only [renV, renL]; grind [chkC])

theorem refCheckClash_ok (h : H) (lo hi : Int) (l : List E) (sv : V) (p q : Int × Int) (hl : l.length ≤ 9223372036854775807) (hs : SlC h (entVs l) l.length sv) :
    CallOk Try.prog 26 [starV lo hi sv, pV p, pV q] h (.int .i64 (chkC lo hi l p q)) h := by
  obtain ⟨vo, svC, hsv, hca, hvw⟩ := hs.view 0
  refine CallOk.run Try.func26 rfl rfl (argsC := [starV lo hi svC, pV p, pV q]) (Nat.le_of_ble_eq_true rfl) [vo] (.cons (CaL.agg (.cons (.bare rfl) (.cons (.bare rfl) (.cons (hca _ rfl) .nil)))) (CaL.lt0 rfl)) (viewMc1 entVs_bare hvw) rfl (WpR.of_vc ?_)
  have hBare := @entVs_bare l
  cases hsv with
  | nil h0 =>
    have e1 : starErr lo hi l = 6 := by unfold starErr; rw [if_pos (by omega)]
    (conv => whnf); (repeat' (first | ((with_reducible refine ifb_mk (fun hc => ?_) (fun hc => ?_)) <;> ((try simp only [decide_eq_true_eq, decide_eq_false_iff_not, Bool.not_eq_true', Bool.not_eq_false', Int.not_lt, Int.not_le, ne_eq, Decidable.not_not, beq_iff_eq, List.cons.injEq, and_true] at hc); (first | (exfalso; omega) | conv => whnf))) | ((with_reducible refine And.intro True.intro ?_); conv => whnf) | ((with_reducible refine CallX.all ?_); refine CallW.of_ok (refCheckStar_ok _ lo hi l _ hl (SlC.none h0)) ?_; conv => whnf) | ((with_reducible refine And.intro ?hh ?_); (case hh => (unfold InR; (try dsimp only); omega)); conv => whnf) | ((with_reducible refine And.intro ?hh ?_); (case hh => ((try dsimp only); omega)); conv => whnf) | ((with_reducible refine And.intro ?hh ?_); (case hh => ((conv => whnf); (repeat' (first | exact True.intro | rfl | refine And.intro ?_ ?_)); done)); conv => whnf) | fail))
    all_goals (refine ⟨[], ?_, rfl, rfl, trivial, (by (repeat' (first | exact True.intro | rfl | refine And.intro ?_ ?_)))⟩; simp only [renV, renL]; grind [chkC])
  | @sl cap ex =>
  (conv => whnf); (repeat' (first | ((with_reducible refine ifb_mk (fun hc => ?_) (fun hc => ?_)) <;> ((try simp only [decide_eq_true_eq, decide_eq_false_iff_not, Bool.not_eq_true', Bool.not_eq_false', Int.not_lt, Int.not_le, ne_eq, Decidable.not_not, beq_iff_eq, List.cons.injEq, and_true] at hc); (first | (exfalso; omega) | conv => whnf))) | ((with_reducible refine And.intro True.intro ?_); conv => whnf) | ((with_reducible refine CallX.all ?_); refine CallW.of_ok (refCheckStar_ok _ lo hi l _ hl (SlC.own rfl)) ?_; conv => whnf) | ((with_reducible refine And.intro ?hh ?_); (case hh => (unfold InR; (try dsimp only); omega)); conv => whnf) | ((with_reducible refine And.intro ?hh ?_); (case hh => ((try dsimp only); omega)); conv => whnf) | ((with_reducible refine And.intro ?hh ?_); (case hh => ((conv => whnf); (repeat' (first | exact True.intro | rfl | refine And.intro ?_ ?_)); done)); conv => whnf) | fail))
  · (refine ⟨[], ?_, rfl, rfl, trivial, (by (repeat' (first | exact True.intro | rfl | refine And.intro ?_ ?_)))⟩; simp only [renV, renL]; grind [chkC])
  have hS := starErr_ok hc
  have e1 := chkC_eq hc (p := p) (q := q)
  have k0 := fun h' sv' hs' => refIsPair_ok h' lo hi l sv' p.1 p.2 hl hs'
  have k1 := fun h' sv' hs' => refIsPair_ok h' lo hi l sv' q.1 q.2 hl hs'
  cases hp : isPairB l.length p.1 p.2 with
  | false =>
    rw [hp] at k0
    (conv => whnf); (repeat' (first | ((with_reducible refine ifb_mk (fun hc => ?_) (fun hc => ?_)) <;> ((try simp only [decide_eq_true_eq, decide_eq_false_iff_not, Bool.not_eq_true', Bool.not_eq_false', Int.not_lt, Int.not_le, ne_eq, Decidable.not_not, beq_iff_eq, List.cons.injEq, and_true] at hc); (first | (exfalso; omega) | conv => whnf))) | ((with_reducible refine And.intro True.intro ?_); conv => whnf) | ((with_reducible refine CallX.all ?_); refine CallW.of_ok (k0 _ _ (SlC.own rfl)) ?_; conv => whnf) | ((with_reducible refine And.intro ?hh ?_); (case hh => (unfold InR; (try dsimp only); omega)); conv => whnf) | ((with_reducible refine And.intro ?hh ?_); (case hh => ((try dsimp only); omega)); conv => whnf) | ((with_reducible refine And.intro ?hh ?_); (case hh => ((conv => whnf); (repeat' (first | exact True.intro | rfl | refine And.intro ?_ ?_)); done)); conv => whnf) | fail))
    all_goals (refine ⟨[], ?_, rfl, rfl, trivial, (by (repeat' (first | exact True.intro | rfl | refine And.intro ?_ ?_)))⟩; simp only [renV, renL]; grind)
  | true =>
    rw [hp] at k0
    cases hq : isPairB l.length q.1 q.2 with
    | false =>
      rw [hq] at k1
      (conv => whnf); (repeat' (first | ((with_reducible refine ifb_mk (fun hc => ?_) (fun hc => ?_)) <;> ((try simp only [decide_eq_true_eq, decide_eq_false_iff_not, Bool.not_eq_true', Bool.not_eq_false', Int.not_lt, Int.not_le, ne_eq, Decidable.not_not, beq_iff_eq, List.cons.injEq, and_true] at hc); (first | (exfalso; omega) | conv => whnf))) | ((with_reducible refine And.intro True.intro ?_); conv => whnf) | ((with_reducible refine CallX.all ?_); refine CallW.of_ok (k0 _ _ (SlC.own rfl)) ?_; conv => whnf) | ((with_reducible refine CallX.all ?_); refine CallW.of_ok (k1 _ _ (SlC.own rfl)) ?_; conv => whnf) | ((with_reducible refine And.intro ?hh ?_); (case hh => (unfold InR; (try dsimp only); omega)); conv => whnf) | ((with_reducible refine And.intro ?hh ?_); (case hh => ((try dsimp only); omega)); conv => whnf) | ((with_reducible refine And.intro ?hh ?_); (case hh => ((conv => whnf); (repeat' (first | exact True.intro | rfl | refine And.intro ?_ ?_)); done)); conv => whnf) | fail))
      all_goals (refine ⟨[], ?_, rfl, rfl, trivial, (by (repeat' (first | exact True.intro | rfl | refine And.intro ?_ ?_)))⟩; simp only [renV, renL]; grind)
    | true =>
      rw [hq] at k1
      obtain ⟨o1, o2, _, _⟩ := bndOf_bd hS (isPairB_mem.1 hp)
      obtain ⟨_, _, o3, o4⟩ := bndOf_bd hS (isPairB_mem.1 hq)
      have b0 := fun h' sv' hs' => refBoundOf_ok h' lo hi l sv' false p.1 p.2 hS (isPairB_mem.1 hp) hs'
      have b1 := fun h' sv' hs' => refBoundOf_ok h' lo hi l sv' true q.1 q.2 hS (isPairB_mem.1 hq) hs'
      simp only [sideB_lo, sideB_hi] at b0 b1
      (conv => whnf); (repeat' (first | ((with_reducible refine ifb_mk (fun hc => ?_) (fun hc => ?_)) <;> ((try simp only [decide_eq_true_eq, decide_eq_false_iff_not, Bool.not_eq_true', Bool.not_eq_false', Int.not_lt, Int.not_le, ne_eq, Decidable.not_not, beq_iff_eq, List.cons.injEq, and_true] at hc); (first | (exfalso; omega) | conv => whnf))) | ((with_reducible refine And.intro True.intro ?_); conv => whnf) | ((with_reducible refine CallX.all ?_); refine CallW.of_ok (k0 _ _ (SlC.own rfl)) ?_; conv => whnf) | ((with_reducible refine CallX.all ?_); refine CallW.of_ok (k1 _ _ (SlC.own rfl)) ?_; conv => whnf) | ((with_reducible refine WpR.draw (id := 5) mixed [0, 1, 2, 3, 4, 6, 7, 8, 9, 10, 5, 11, 12, 13] [0, 0, 2, 0, 8, 31, 0, 0, 128, 0, 512, 2047, 4095, 8191] ?hh ?_); (case hh => kernel_rfl); conv => whnf) | ((with_reducible refine grd_ex ?_); refine ex_ok (b0 _ _ (SlC.own rfl)) ?_; conv => whnf) | ((with_reducible refine grd_ex ?_); refine ex_ok (b1 _ _ (SlC.own rfl)) ?_; conv => whnf) | ((with_reducible refine grd_ex ?_); refine ex_ok (refLess_ok _ _ _ _ _ (InR_mul o3 o2) (InR_mul o1 o4)) ?_; conv => whnf) | ((with_reducible refine And.intro ?hh ?_); (case hh => (unfold InR; (try dsimp only); omega)); conv => whnf) | ((with_reducible refine And.intro ?hh ?_); (case hh => ((try dsimp only); omega)); conv => whnf) | ((with_reducible refine And.intro ?hh ?_); (case hh => ((conv => whnf); (repeat' (first | exact True.intro | rfl | refine And.intro ?_ ?_)); done)); conv => whnf) | fail))
      all_goals (refine ⟨[], ?_, rfl, rfl, trivial, (by (repeat' (first | exact True.intro | rfl | refine And.intro ?_ ?_)))⟩; simp only [renV, renL]; grind)

/-! ### Clash -/

def clashR (lo hi : Int) (l : List E) : Int := if starErr lo hi l = 0 then (if hasM lo hi l then 5 else 0) else starErr lo hi l

theorem clashF_ok (h : H) (lo hi : Int) (l : List E) (sv : V) (hl : l.length ≤ 9223372036854775807) (hs : SlC h (entVs l) l.length sv) :
    CallOk Try.prog 22 [starV lo hi sv] h (.tup [pV (if clashR lo hi l = 0 then tgt lo hi l 0 else (0, 0)), pV (if clashR lo hi l = 0 then tgt lo hi l 1 else (0, 0)), .int .i64 (clashR lo hi l)]) h := by
  obtain ⟨vo, svC, hsv, hca, hvw⟩ := hs.view 0
  refine CallOk.run Try.func22 rfl rfl (argsC := [starV lo hi svC]) (Nat.le_of_ble_eq_true rfl) [vo] (.cons (CaL.agg (.cons (.bare rfl) (.cons (.bare rfl) (.cons (hca _ rfl) .nil)))) .nil) (viewMc1 entVs_bare hvw) rfl (WpR.of_vc ?_)
  have hBare := @entVs_bare l
  cases hsv with
  | nil h0 =>
    have e1 : starErr lo hi l = 6 := by unfold starErr; rw [if_pos (by omega)]
    have e2 : clashR lo hi l = 6 := by unfold clashR; grind
    rw [e2]
    (conv => whnf); (repeat' (first | ((with_reducible refine ifb_mk (fun hc => ?_) (fun hc => ?_)) <;> ((try simp only [decide_eq_true_eq, decide_eq_false_iff_not, Bool.not_eq_true', Bool.not_eq_false', Int.not_lt, Int.not_le, ne_eq, Decidable.not_not, beq_iff_eq, List.cons.injEq, and_true] at hc); (first | (exfalso; omega) | conv => whnf))) | ((with_reducible refine And.intro True.intro ?_); conv => whnf) | ((with_reducible refine CallX.all ?_); refine CallW.of_ok (checkStar_ok _ lo hi l _ hl (SlC.none h0)) ?_; conv => whnf) | ((with_reducible refine And.intro ?hh ?_); (case hh => (unfold InR; (try dsimp only); omega)); conv => whnf) | ((with_reducible refine And.intro ?hh ?_); (case hh => ((try dsimp only); omega)); conv => whnf) | ((with_reducible refine And.intro ?hh ?_); (case hh => ((conv => whnf); (repeat' (first | exact True.intro | rfl | refine And.intro ?_ ?_)); done)); conv => whnf) | fail))
    rw [e1]
    (refine ⟨[], ?_, rfl, rfl, trivial, (by (repeat' (first | exact True.intro | rfl | refine And.intro ?_ ?_)))⟩; simp only [renV, renL]; rfl)
  | @sl cap ex =>
  (conv => whnf); (repeat' (first | ((with_reducible refine ifb_mk (fun hc => ?_) (fun hc => ?_)) <;> ((try simp only [decide_eq_true_eq, decide_eq_false_iff_not, Bool.not_eq_true', Bool.not_eq_false', Int.not_lt, Int.not_le, ne_eq, Decidable.not_not, beq_iff_eq, List.cons.injEq, and_true] at hc); (first | (exfalso; omega) | conv => whnf))) | ((with_reducible refine And.intro True.intro ?_); conv => whnf) | ((with_reducible refine CallX.all ?_); refine CallW.of_ok (checkStar_ok _ lo hi l _ hl (SlC.own rfl)) ?_; conv => whnf) | ((with_reducible refine And.intro ?hh ?_); (case hh => (unfold InR; (try dsimp only); omega)); conv => whnf) | ((with_reducible refine And.intro ?hh ?_); (case hh => ((try dsimp only); omega)); conv => whnf) | ((with_reducible refine And.intro ?hh ?_); (case hh => ((conv => whnf); (repeat' (first | exact True.intro | rfl | refine And.intro ?_ ?_)); done)); conv => whnf) | fail))
  · have e2 : clashR lo hi l = starErr lo hi l := by unfold clashR; grind
    rw [e2, if_neg hc, if_neg hc]
    (refine ⟨[], ?_, rfl, rfl, trivial, (by (repeat' (first | exact True.intro | rfl | refine And.intro ?_ ?_)))⟩; simp only [renV, renL]; rfl)
  have hS := starErr_ok hc
  have k0 := fun h' sv' hs' m hm => tightest2_ok h' lo hi l hS sv' hs' m (pairsL l.length).length hm 0 (.inl rfl)
  have k1 := fun h' sv' hs' m hm => tightest2_ok h' lo hi l hS sv' hs' m (pairsL l.length).length hm 1 (.inr rfl)
  have e1 : clashR lo hi l = if hasM lo hi l then 5 else 0 := by unfold clashR; grind
  rw [e1]
  (conv => whnf); (repeat' (first | ((with_reducible refine ifb_mk (fun hc => ?_) (fun hc => ?_)) <;> ((try simp only [decide_eq_true_eq, decide_eq_false_iff_not, Bool.not_eq_true', Bool.not_eq_false', Int.not_lt, Int.not_le, ne_eq, Decidable.not_not, beq_iff_eq, List.cons.injEq, and_true] at hc); (first | (exfalso; omega) | conv => whnf))) | ((with_reducible refine And.intro True.intro ?_); conv => whnf) | ((with_reducible refine CallX.all ?_); refine newCard_W lo hi l hS _ (SlC.own rfl) ?_; conv => whnf) | ((with_reducible refine CallX.all ?_); refine CallW.of_ok (span2_ok _ lo hi l hS _ (SlC.own rfl) _ _ rfl) ?_; conv => whnf) | ((with_reducible refine CallX.all ?_); refine CallW.of_ok (clash2_ok _ lo hi l hS) ?_; conv => whnf) | ((with_reducible refine WpR.draw (id := 7) mixed [0, 2, 4, 5, 1, 3, 6, 7] [0, 1, 0, 7, 0, 0, 63, 127] ?hh ?_); (case hh => kernel_rfl); conv => whnf) | ((with_reducible refine WpR.draw (id := 8) mixed [0, 1, 2, 3, 4, 5, 6, 7, 8, 9, 10, 11, 12] [0, 1, 0, 4, 15, 0, 32, 0, 128, 480, 31, 2047, 4095] ?hh ?_); (case hh => kernel_rfl); conv => whnf) | ((with_reducible refine grd_ex ?_); refine ex_ok (k0 _ _ (SlC.own rfl) _ rfl) ?_; conv => whnf) | ((with_reducible refine grd_ex ?_); refine ex_ok (k1 _ _ (SlC.own rfl) _ rfl) ?_; conv => whnf) | ((with_reducible refine And.intro ?hh ?_); (case hh => (unfold InR; (try dsimp only); omega)); conv => whnf) | ((with_reducible refine And.intro ?hh ?_); (case hh => ((try dsimp only); omega)); conv => whnf) | ((with_reducible refine And.intro ?hh ?_); (case hh => ((conv => whnf); (repeat' (first | exact True.intro | rfl | refine And.intro ?_ ?_)); done)); conv => whnf) | fail))
  · rw [hc]
    (refine ⟨[], ?_, rfl, rfl, trivial, (by (repeat' (first | exact True.intro | rfl | refine And.intro ?_ ?_)))⟩; simp only [renV, renL]; rfl)
  · rw [hc]
    (refine ⟨[], ?_, rfl, rfl, trivial, (by (repeat' (first | exact True.intro | rfl | refine And.intro ?_ ?_)))⟩; simp only [renV, renL]; rfl)
end Go.Proofs.D

namespace Go.Proofs.D
open Go.As
set_option maxRecDepth 20000
set_option linter.unusedVariables false
set_option linter.unusedSimpArgs false

/-! ### The reference's ends of the rate -/

def refStep (lo hi : Int) (l : List E) (a : Bd) (p : Int × Int) : Bd :=
  (if a.1.1 * (bndOf lo hi l p).1.2 < (bndOf lo hi l p).1.1 * a.1.2 then (bndOf lo hi l p).1 else a.1,
   if (bndOf lo hi l p).2.1 * a.2.2 < a.2.1 * (bndOf lo hi l p).2.2 then (bndOf lo hi l p).2 else a.2)
def refRate (lo hi : Int) (l : List E) : Bd := ((List.range' 0 l.length).flatMap (rowP l.length)).foldl (refStep lo hi l) ((lo, 1), (hi, 1))

theorem refStep_bd {lo hi : Int} {l : List E} {a : Bd} {p : Int × Int} (ha : OkBd a) (hp : OkBd (bndOf lo hi l p)) : OkBd (refStep lo hi l a p) := by
  obtain ⟨a1, a2, a3, a4⟩ := ha
  obtain ⟨b1, b2, b3, b4⟩ := hp
  unfold refStep
  refine ⟨?_, ?_, ?_, ?_⟩
  · dsimp only; split <;> assumption
  · dsimp only; split <;> assumption
  · dsimp only; split <;> assumption
  · dsimp only; split <;> assumption

theorem refRateOf_ok (h : H) (lo hi : Int) (l : List E) (hS : OkS lo hi l) (sv : V) (hs : SlC h (entVs l) l.length sv) :
    CallOk Try.prog 21 [starV lo hi sv] h (.tup [qV (refRate lo hi l).1, qV (refRate lo hi l).2]) h := by
  obtain ⟨vo, svC, hsv, hca, hvw⟩ := hs.view 0
  obtain ⟨cap, ex, rfl⟩ := Sv.pos hsv hS.one
  have hn := hS.most
  have hBare := @entVs_bare l
  refine CallOk.run Try.func21 rfl rfl (argsC := [starV lo hi (.sl 0 0 l.length cap ex)]) (Nat.le_of_ble_eq_true rfl) [vo] (.cons (CaL.agg (.cons (.bare rfl) (.cons (.bare rfl) (.cons (hca _ rfl) .nil)))) .nil) (viewMc1 entVs_bare hvw) rfl (WpR.of_vc ?_)
  (conv => whnf); (repeat' (first | ((with_reducible refine ifb_mk (fun hc => ?_) (fun hc => ?_)) <;> ((try simp only [decide_eq_true_eq, decide_eq_false_iff_not, Bool.not_eq_true', Bool.not_eq_false', Int.not_lt, Int.not_le, ne_eq, Decidable.not_not, beq_iff_eq, List.cons.injEq, and_true] at hc); (first | (exfalso; omega) | conv => whnf))) | ((with_reducible refine And.intro True.intro ?_); conv => whnf) | ((with_reducible refine WpR.draw (id := 1) mixed [0, 1, 2, 4, 5, 6, 8, 9, 3, 7, 10, 11] [0, 1, 3, 7, 0, 16, 48, 127, 0, 0, 1023, 2047] ?hh ?_); (case hh => kernel_rfl); conv => whnf) | ((with_reducible refine grd_ex ?_); refine ex_ok (refWhole_ok _ _) ?_; conv => whnf) | ((with_reducible refine And.intro ?hh ?_); (case hh => (unfold InR; (try dsimp only); omega)); conv => whnf) | ((with_reducible refine And.intro ?hh ?_); (case hh => ((try dsimp only); omega)); conv => whnf) | ((with_reducible refine And.intro ?hh ?_); (case hh => ((conv => whnf); (repeat' (first | exact True.intro | rfl | refine And.intro ?_ ?_)); done)); conv => whnf) | fail))
  have h0 : OkBd ((lo, 1), (hi, 1)) := bndOf_bd hS (p := (-1, -1)) (pairsL_mem.2 (.inl rfl))
  refine WpR.loopD (ι := Nat × Bd) [] [1, 2, 3, 4, 5] [4, 5] [] 6 (fun p => [(6, .int .i64 p.1)]) (fun p => [(4, .cells (ofL [.int .i64 p.2.1.1, .int .i64 p.2.1.2] 0) true none), (5, .cells (ofL [.int .i64 p.2.2.1, .int .i64 p.2.2.2] 0) true none)]) (fun p => l.length - p.1) (fun p => p.1 ≤ l.length ∧ OkBd p.2 ∧ refRate lo hi l = ((List.range' p.1 (l.length - p.1)).flatMap (rowP l.length)).foldl (refStep lo hi l) p.2) ?_ ((0, ((lo, 1), (hi, 1)))) (⟨Nat.zero_le _, h0, rfl⟩) [] ⟨rfl, rfl, (by (repeat' (first | exact True.intro | rfl | refine And.intro ?_ ?_))), (by (repeat' (first | exact True.intro | rfl | refine And.intro ?_ ?_))), (by (repeat' (first | exact True.intro | rfl | refine And.intro ?_ ?_))), (by (repeat' (first | exact True.intro | exact Or.inl rfl | refine And.intro ?_ ?_ | refine Or.inr ⟨_, rfl, ?_⟩ | exact SubQ.same (n := 1000) (Y := []) (fun _ _ _ => rfl) (by first | exact True.intro | exact ltB_all rfl | exact ltB_ofLb (by first | exact bare0_ints | assumption | (intro v hv; (repeat (rcases List.mem_cons.1 hv with rfl | hv; exact rfl)); cases hv)) | exact ltB_loop rfl rfl | exact hMap _ | exact hMap2 _ | exact grB_lt (by first | exact bare0_ints | assumption | (intro v hv; (repeat (rcases List.mem_cons.1 hv with rfl | hv; exact rfl)); cases hv)) _ | exact ltB_mapB | assumption) (avB_nil _) rfl | exact SubQ.ofL (by first | rfl | simp) (by first | exact bare0_ints | assumption | (intro v hv; (repeat (rcases List.mem_cons.1 hv with rfl | hv; exact rfl)); cases hv)) (by first | exact Or.inl rfl | exact Or.inr rfl)))), rfl, rfl⟩ rfl rfl rfl (fun _ => rfl) (by (repeat' (first | exact True.intro | refine And.intro ?_ ?_ | exact avV_nil _ | rfl))) (by (repeat' (first | exact True.intro | exact avB_nil _ | exact (by first | exact avB_all rfl | exact avB_ofLb (by first | exact bare0_ints | assumption | (intro v hv; (repeat (rcases List.mem_cons.1 hv with rfl | hv; exact rfl)); cases hv))) | exact (by first | exact True.intro | exact ltB_all rfl | exact ltB_ofLb (by first | exact bare0_ints | assumption | (intro v hv; (repeat (rcases List.mem_cons.1 hv with rfl | hv; exact rfl)); cases hv)) | exact ltB_loop rfl rfl | exact hMap _ | exact hMap2 _ | exact grB_lt (by first | exact bare0_ints | assumption | (intro v hv; (repeat (rcases List.mem_cons.1 hv with rfl | hv; exact rfl)); cases hv)) _ | exact ltB_mapB | assumption) | refine And.intro ?_ ?_))) (fun _ _ => (by (repeat' (first | exact True.intro | rfl | refine And.intro ?_ ?_ | exact (by decide) | exact (by first | exact True.intro | exact hMap _ | exact hMap2 _ | exact grB_lt (by first | exact bare0_ints | assumption | (intro v hv; (repeat (rcases List.mem_cons.1 hv with rfl | hv; exact rfl)); cases hv)) _ | exact ltB_all rfl | exact ltB_ofLb (by first | exact bare0_ints | assumption | (intro v hv; (repeat (rcases List.mem_cons.1 hv with rfl | hv; exact rfl)); cases hv)) | exact ltB_loop rfl rfl | exact ltB_mapB | assumption))))) (fun _ _ => (by (repeat' (first | exact True.intro | rfl | refine And.intro ?_ ?_ | exact (by decide) | exact (by first | exact True.intro | exact hMap _ | exact hMap2 _ | exact grB_lt (by first | exact bare0_ints | assumption | (intro v hv; (repeat (rcases List.mem_cons.1 hv with rfl | hv; exact rfl)); cases hv)) _ | exact ltB_all rfl | exact ltB_ofLb (by first | exact bare0_ints | assumption | (intro v hv; (repeat (rcases List.mem_cons.1 hv with rfl | hv; exact rfl)); cases hv)) | exact ltB_loop rfl rfl | exact ltB_mapB | assumption))))) (fun _ _ => (by (repeat' (first | exact True.intro | rfl | refine And.intro ?_ ?_)))) rfl
  rintro ⟨i, a⟩ ⟨j1, j2, j3⟩
  dsimp only at j1 j2 j3
  refine WpR.of_vc ?_
  by_cases hi' : i < l.length
  · rw [range'_cons i _ hi', List.flatMap_cons, List.foldl_append] at j3
    (conv => whnf); (repeat' (first | ((with_reducible refine ifb_mk (fun hc => ?_) (fun hc => ?_)) <;> ((try simp only [decide_eq_true_eq, decide_eq_false_iff_not, Bool.not_eq_true', Bool.not_eq_false', Int.not_lt, Int.not_le, ne_eq, Decidable.not_not, beq_iff_eq, List.cons.injEq, and_true] at hc); (first | (exfalso; omega) | conv => whnf))) | ((with_reducible refine And.intro True.intro ?_); conv => whnf) | ((with_reducible refine And.intro ?hh ?_); (case hh => (unfold InR; (try dsimp only); omega)); conv => whnf) | ((with_reducible refine And.intro ?hh ?_); (case hh => ((try dsimp only); omega)); conv => whnf) | ((with_reducible refine And.intro ?hh ?_); (case hh => ((conv => whnf); (repeat' (first | exact True.intro | rfl | refine And.intro ?_ ?_)); done)); conv => whnf) | fail))
    refine WpR.loopD (ι := Nat × Bd) [] [1, 2, 3, 4, 5, 6] [4, 5] [] 6 (fun p => [(7, .int .i64 p.1)]) (fun p => [(4, .cells (ofL [.int .i64 p.2.1.1, .int .i64 p.2.1.2] 0) true none), (5, .cells (ofL [.int .i64 p.2.2.1, .int .i64 p.2.2.2] 0) true none)]) (fun p => l.length - p.1) (fun p => i < p.1 ∧ p.1 ≤ l.length ∧ OkBd p.2 ∧ refRate lo hi l = ((List.range' (i + 1) (l.length - (i + 1))).flatMap (rowP l.length)).foldl (refStep lo hi l) (((List.range' p.1 (l.length - p.1)).map fun (j : Nat) => ((i : Int), (j : Int))).foldl (refStep lo hi l) p.2)) ?_ ((i + 1, a)) (⟨by dsimp only; omega, by dsimp only; omega, j2, j3⟩) [] ⟨rfl, rfl, (by (repeat' (first | exact True.intro | rfl | refine And.intro ?_ ?_))), (by (repeat' (first | exact True.intro | rfl | refine And.intro ?_ ?_))), (by (repeat' (first | exact True.intro | rfl | refine And.intro ?_ ?_))), (by (repeat' (first | exact True.intro | exact Or.inl rfl | refine And.intro ?_ ?_ | refine Or.inr ⟨_, rfl, ?_⟩ | exact SubQ.same (n := 1000) (Y := []) (fun _ _ _ => rfl) (by first | exact True.intro | exact ltB_all rfl | exact ltB_ofLb (by first | exact bare0_ints | assumption | (intro v hv; (repeat (rcases List.mem_cons.1 hv with rfl | hv; exact rfl)); cases hv)) | exact ltB_loop rfl rfl | exact hMap _ | exact hMap2 _ | exact grB_lt (by first | exact bare0_ints | assumption | (intro v hv; (repeat (rcases List.mem_cons.1 hv with rfl | hv; exact rfl)); cases hv)) _ | exact ltB_mapB | assumption) (avB_nil _) rfl | exact SubQ.ofL (by first | rfl | simp) (by first | exact bare0_ints | assumption | (intro v hv; (repeat (rcases List.mem_cons.1 hv with rfl | hv; exact rfl)); cases hv)) (by first | exact Or.inl rfl | exact Or.inr rfl)))), rfl, rfl⟩ rfl rfl rfl (fun _ => rfl) (by (repeat' (first | exact True.intro | refine And.intro ?_ ?_ | exact avV_nil _ | rfl))) (by (repeat' (first | exact True.intro | exact avB_nil _ | exact (by first | exact avB_all rfl | exact avB_ofLb (by first | exact bare0_ints | assumption | (intro v hv; (repeat (rcases List.mem_cons.1 hv with rfl | hv; exact rfl)); cases hv))) | exact (by first | exact True.intro | exact ltB_all rfl | exact ltB_ofLb (by first | exact bare0_ints | assumption | (intro v hv; (repeat (rcases List.mem_cons.1 hv with rfl | hv; exact rfl)); cases hv)) | exact ltB_loop rfl rfl | exact hMap _ | exact hMap2 _ | exact grB_lt (by first | exact bare0_ints | assumption | (intro v hv; (repeat (rcases List.mem_cons.1 hv with rfl | hv; exact rfl)); cases hv)) _ | exact ltB_mapB | assumption) | refine And.intro ?_ ?_))) (fun _ _ => (by (repeat' (first | exact True.intro | rfl | refine And.intro ?_ ?_ | exact (by decide) | exact (by first | exact True.intro | exact hMap _ | exact hMap2 _ | exact grB_lt (by first | exact bare0_ints | assumption | (intro v hv; (repeat (rcases List.mem_cons.1 hv with rfl | hv; exact rfl)); cases hv)) _ | exact ltB_all rfl | exact ltB_ofLb (by first | exact bare0_ints | assumption | (intro v hv; (repeat (rcases List.mem_cons.1 hv with rfl | hv; exact rfl)); cases hv)) | exact ltB_loop rfl rfl | exact ltB_mapB | assumption))))) (fun _ _ => (by (repeat' (first | exact True.intro | rfl | refine And.intro ?_ ?_ | exact (by decide) | exact (by first | exact True.intro | exact hMap _ | exact hMap2 _ | exact grB_lt (by first | exact bare0_ints | assumption | (intro v hv; (repeat (rcases List.mem_cons.1 hv with rfl | hv; exact rfl)); cases hv)) _ | exact ltB_all rfl | exact ltB_ofLb (by first | exact bare0_ints | assumption | (intro v hv; (repeat (rcases List.mem_cons.1 hv with rfl | hv; exact rfl)); cases hv)) | exact ltB_loop rfl rfl | exact ltB_mapB | assumption))))) (fun _ _ => (by (repeat' (first | exact True.intro | rfl | refine And.intro ?_ ?_)))) rfl
    rintro ⟨k, a⟩ ⟨k0, k1, k2, k3⟩
    dsimp only at k0 k1 k2 k3
    refine WpR.of_vc ?_
    by_cases hk' : k < l.length
    · rw [range'_cons k _ hk', List.map_cons, List.foldl_cons] at k3
      have hm : ((i : Int), (k : Int)) ∈ pairsL l.length := pairsL_mem.2 (.inr ⟨i, k, k0, hk', rfl⟩)
      have hb := bndOf_bd hS hm
      have b0 := fun h' sv' hs' => refBoundOf_ok h' lo hi l sv' false i k hS hm hs'
      have b1 := fun h' sv' hs' => refBoundOf_ok h' lo hi l sv' true i k hS hm hs'
      simp only [sideB_lo, sideB_hi] at b0 b1
      (conv => whnf); (repeat' (first | ((with_reducible refine ifb_mk (fun hc => ?_) (fun hc => ?_)) <;> ((try simp only [decide_eq_true_eq, decide_eq_false_iff_not, Bool.not_eq_true', Bool.not_eq_false', Int.not_lt, Int.not_le, ne_eq, Decidable.not_not, beq_iff_eq, List.cons.injEq, and_true] at hc); (first | (exfalso; omega) | conv => whnf))) | ((with_reducible refine And.intro True.intro ?_); conv => whnf) | ((with_reducible refine WpR.draw (id := 8) mixed [0, 1, 2, 4, 5, 6, 8, 9, 3, 7, 10, 11] [0, 0, 0, 7, 0, 0, 0, 127, 0, 0, 1023, 2047] ?hh ?_); (case hh => kernel_rfl); conv => whnf) | ((with_reducible refine grd_ex ?_); refine ex_ok (b0 _ _ (SlC.own rfl)) ?_; conv => whnf) | ((with_reducible refine grd_ex ?_); refine ex_ok (b1 _ _ (SlC.own rfl)) ?_; conv => whnf) | ((with_reducible refine CallX.all ?_); refine CallW.of_ok (refLess_ok _ _ _ _ _ (InR_mul k2.1 hb.2.1) (InR_mul hb.1 k2.2.1)) ?_; conv => whnf) | ((with_reducible refine CallX.all ?_); refine CallW.of_ok (refLess_ok _ _ _ _ _ (InR_mul hb.2.2.1 k2.2.2.2) (InR_mul k2.2.2.1 hb.2.2.2)) ?_; conv => whnf) | ((with_reducible refine And.intro ?hh ?_); (case hh => (unfold InR; (try dsimp only); omega)); conv => whnf) | ((with_reducible refine And.intro ?hh ?_); (case hh => ((try dsimp only); omega)); conv => whnf) | ((with_reducible refine And.intro ?hh ?_); (case hh => ((conv => whnf); (repeat' (first | exact True.intro | rfl | refine And.intro ?_ ?_)); done)); conv => whnf) | fail))
      · rename_i _ _ g1
        have e : refStep lo hi l a ((i : Int), (k : Int)) = ((bndOf lo hi l ((i : Int), (k : Int))).1, (bndOf lo hi l ((i : Int), (k : Int))).2) := by unfold refStep; rw [if_pos g1, if_pos hc]
        have hb2 := refStep_bd k2 hb
        rw [e] at k3 hb2
        exact ⟨(k + 1, ((bndOf lo hi l ((i : Int), (k : Int))).1, (bndOf lo hi l ((i : Int), (k : Int))).2)), [], by dsimp only; omega, ⟨by dsimp only; omega, by dsimp only; omega, hb2, k3⟩, ⟨rfl, rfl, (by (repeat' (first | exact True.intro | rfl | refine And.intro ?_ ?_))), (by (repeat' (first | exact True.intro | rfl | refine And.intro ?_ ?_))), (by (repeat' (first | exact True.intro | rfl | refine And.intro ?_ ?_))), (by (repeat' (first | exact True.intro | exact Or.inl rfl | refine And.intro ?_ ?_ | refine Or.inr ⟨_, rfl, ?_⟩ | exact SubQ.same (n := 1000) (Y := []) (fun _ _ _ => rfl) (by first | exact True.intro | exact ltB_all rfl | exact ltB_ofLb (by first | exact bare0_ints | assumption | (intro v hv; (repeat (rcases List.mem_cons.1 hv with rfl | hv; exact rfl)); cases hv)) | exact ltB_loop rfl rfl | exact hMap _ | exact hMap2 _ | exact grB_lt (by first | exact bare0_ints | assumption | (intro v hv; (repeat (rcases List.mem_cons.1 hv with rfl | hv; exact rfl)); cases hv)) _ | exact ltB_mapB | assumption) (avB_nil _) rfl | exact SubQ.ofL (by first | rfl | simp) (by first | exact bare0_ints | assumption | (intro v hv; (repeat (rcases List.mem_cons.1 hv with rfl | hv; exact rfl)); cases hv)) (by first | exact Or.inl rfl | exact Or.inr rfl)))), rfl, rfl⟩⟩
      · rename_i _ _ g1
        have e : refStep lo hi l a ((i : Int), (k : Int)) = ((bndOf lo hi l ((i : Int), (k : Int))).1, a.2) := by unfold refStep; rw [if_pos g1, if_neg (Int.not_lt.2 hc)]
        have hb2 := refStep_bd k2 hb
        rw [e] at k3 hb2
        exact ⟨(k + 1, ((bndOf lo hi l ((i : Int), (k : Int))).1, a.2)), [], by dsimp only; omega, ⟨by dsimp only; omega, by dsimp only; omega, hb2, k3⟩, ⟨rfl, rfl, (by (repeat' (first | exact True.intro | rfl | refine And.intro ?_ ?_))), (by (repeat' (first | exact True.intro | rfl | refine And.intro ?_ ?_))), (by (repeat' (first | exact True.intro | rfl | refine And.intro ?_ ?_))), (by (repeat' (first | exact True.intro | exact Or.inl rfl | refine And.intro ?_ ?_ | refine Or.inr ⟨_, rfl, ?_⟩ | exact SubQ.same (n := 1000) (Y := []) (fun _ _ _ => rfl) (by first | exact True.intro | exact ltB_all rfl | exact ltB_ofLb (by first | exact bare0_ints | assumption | (intro v hv; (repeat (rcases List.mem_cons.1 hv with rfl | hv; exact rfl)); cases hv)) | exact ltB_loop rfl rfl | exact hMap _ | exact hMap2 _ | exact grB_lt (by first | exact bare0_ints | assumption | (intro v hv; (repeat (rcases List.mem_cons.1 hv with rfl | hv; exact rfl)); cases hv)) _ | exact ltB_mapB | assumption) (avB_nil _) rfl | exact SubQ.ofL (by first | rfl | simp) (by first | exact bare0_ints | assumption | (intro v hv; (repeat (rcases List.mem_cons.1 hv with rfl | hv; exact rfl)); cases hv)) (by first | exact Or.inl rfl | exact Or.inr rfl)))), rfl, rfl⟩⟩
      · rename_i _ _ g1
        have e : refStep lo hi l a ((i : Int), (k : Int)) = (a.1, (bndOf lo hi l ((i : Int), (k : Int))).2) := by unfold refStep; rw [if_neg (Int.not_lt.2 g1), if_pos hc]
        have hb2 := refStep_bd k2 hb
        rw [e] at k3 hb2
        exact ⟨(k + 1, (a.1, (bndOf lo hi l ((i : Int), (k : Int))).2)), [], by dsimp only; omega, ⟨by dsimp only; omega, by dsimp only; omega, hb2, k3⟩, ⟨rfl, rfl, (by (repeat' (first | exact True.intro | rfl | refine And.intro ?_ ?_))), (by (repeat' (first | exact True.intro | rfl | refine And.intro ?_ ?_))), (by (repeat' (first | exact True.intro | rfl | refine And.intro ?_ ?_))), (by (repeat' (first | exact True.intro | exact Or.inl rfl | refine And.intro ?_ ?_ | refine Or.inr ⟨_, rfl, ?_⟩ | exact SubQ.same (n := 1000) (Y := []) (fun _ _ _ => rfl) (by first | exact True.intro | exact ltB_all rfl | exact ltB_ofLb (by first | exact bare0_ints | assumption | (intro v hv; (repeat (rcases List.mem_cons.1 hv with rfl | hv; exact rfl)); cases hv)) | exact ltB_loop rfl rfl | exact hMap _ | exact hMap2 _ | exact grB_lt (by first | exact bare0_ints | assumption | (intro v hv; (repeat (rcases List.mem_cons.1 hv with rfl | hv; exact rfl)); cases hv)) _ | exact ltB_mapB | assumption) (avB_nil _) rfl | exact SubQ.ofL (by first | rfl | simp) (by first | exact bare0_ints | assumption | (intro v hv; (repeat (rcases List.mem_cons.1 hv with rfl | hv; exact rfl)); cases hv)) (by first | exact Or.inl rfl | exact Or.inr rfl)))), rfl, rfl⟩⟩
      · rename_i _ _ g1
        have e : refStep lo hi l a ((i : Int), (k : Int)) = (a.1, a.2) := by unfold refStep; rw [if_neg (Int.not_lt.2 g1), if_neg (Int.not_lt.2 hc)]
        have hb2 := refStep_bd k2 hb
        rw [e] at k3 hb2
        exact ⟨(k + 1, (a.1, a.2)), [], by dsimp only; omega, ⟨by dsimp only; omega, by dsimp only; omega, hb2, k3⟩, ⟨rfl, rfl, (by (repeat' (first | exact True.intro | rfl | refine And.intro ?_ ?_))), (by (repeat' (first | exact True.intro | rfl | refine And.intro ?_ ?_))), (by (repeat' (first | exact True.intro | rfl | refine And.intro ?_ ?_))), (by (repeat' (first | exact True.intro | exact Or.inl rfl | refine And.intro ?_ ?_ | refine Or.inr ⟨_, rfl, ?_⟩ | exact SubQ.same (n := 1000) (Y := []) (fun _ _ _ => rfl) (by first | exact True.intro | exact ltB_all rfl | exact ltB_ofLb (by first | exact bare0_ints | assumption | (intro v hv; (repeat (rcases List.mem_cons.1 hv with rfl | hv; exact rfl)); cases hv)) | exact ltB_loop rfl rfl | exact hMap _ | exact hMap2 _ | exact grB_lt (by first | exact bare0_ints | assumption | (intro v hv; (repeat (rcases List.mem_cons.1 hv with rfl | hv; exact rfl)); cases hv)) _ | exact ltB_mapB | assumption) (avB_nil _) rfl | exact SubQ.ofL (by first | rfl | simp) (by first | exact bare0_ints | assumption | (intro v hv; (repeat (rcases List.mem_cons.1 hv with rfl | hv; exact rfl)); cases hv)) (by first | exact Or.inl rfl | exact Or.inr rfl)))), rfl, rfl⟩⟩
    · rw [range'_nil k _ (by omega)] at k3
      (conv => whnf); (repeat' (first | ((with_reducible refine ifb_mk (fun hc => ?_) (fun hc => ?_)) <;> ((try simp only [decide_eq_true_eq, decide_eq_false_iff_not, Bool.not_eq_true', Bool.not_eq_false', Int.not_lt, Int.not_le, ne_eq, Decidable.not_not, beq_iff_eq, List.cons.injEq, and_true] at hc); (first | (exfalso; omega) | conv => whnf))) | ((with_reducible refine And.intro True.intro ?_); conv => whnf) | ((with_reducible refine And.intro ?hh ?_); (case hh => (unfold InR; (try dsimp only); omega)); conv => whnf) | ((with_reducible refine And.intro ?hh ?_); (case hh => ((try dsimp only); omega)); conv => whnf) | ((with_reducible refine And.intro ?hh ?_); (case hh => ((conv => whnf); (repeat' (first | exact True.intro | rfl | refine And.intro ?_ ?_)); done)); conv => whnf) | fail))
      exact ⟨(i + 1, a), [], by dsimp only; omega, ⟨by dsimp only; omega, k2, k3⟩, ⟨rfl, rfl, (by (repeat' (first | exact True.intro | rfl | refine And.intro ?_ ?_))), (by (repeat' (first | exact True.intro | rfl | refine And.intro ?_ ?_))), (by (repeat' (first | exact True.intro | rfl | refine And.intro ?_ ?_))), (by (repeat' (first | exact True.intro | exact Or.inl rfl | refine And.intro ?_ ?_ | refine Or.inr ⟨_, rfl, ?_⟩ | exact SubQ.same (n := 1000) (Y := []) (fun _ _ _ => rfl) (by first | exact True.intro | exact ltB_all rfl | exact ltB_ofLb (by first | exact bare0_ints | assumption | (intro v hv; (repeat (rcases List.mem_cons.1 hv with rfl | hv; exact rfl)); cases hv)) | exact ltB_loop rfl rfl | exact hMap _ | exact hMap2 _ | exact grB_lt (by first | exact bare0_ints | assumption | (intro v hv; (repeat (rcases List.mem_cons.1 hv with rfl | hv; exact rfl)); cases hv)) _ | exact ltB_mapB | assumption) (avB_nil _) rfl | exact SubQ.ofL (by first | rfl | simp) (by first | exact bare0_ints | assumption | (intro v hv; (repeat (rcases List.mem_cons.1 hv with rfl | hv; exact rfl)); cases hv)) (by first | exact Or.inl rfl | exact Or.inr rfl)))), rfl, rfl⟩⟩
  · rw [range'_nil i _ (by omega)] at j3
    (conv => whnf); (repeat' (first | ((with_reducible refine ifb_mk (fun hc => ?_) (fun hc => ?_)) <;> ((try simp only [decide_eq_true_eq, decide_eq_false_iff_not, Bool.not_eq_true', Bool.not_eq_false', Int.not_lt, Int.not_le, ne_eq, Decidable.not_not, beq_iff_eq, List.cons.injEq, and_true] at hc); (first | (exfalso; omega) | conv => whnf))) | ((with_reducible refine And.intro True.intro ?_); conv => whnf) | ((with_reducible refine WpR.draw (id := 13) mixed [0, 1, 2, 3] [0, 0, 1, 7] ?hh ?_); (case hh => kernel_rfl); conv => whnf) | ((with_reducible refine And.intro ?hh ?_); (case hh => (unfold InR; (try dsimp only); omega)); conv => whnf) | ((with_reducible refine And.intro ?hh ?_); (case hh => ((try dsimp only); omega)); conv => whnf) | ((with_reducible refine And.intro ?hh ?_); (case hh => ((conv => whnf); (repeat' (first | exact True.intro | rfl | refine And.intro ?_ ?_)); done)); conv => whnf) | fail))
    have e : refRate lo hi l = a := j3
    (refine ⟨[], ?_, rfl, rfl, trivial, (by (repeat' (first | exact True.intro | rfl | refine And.intro ?_ ?_)))⟩; simp only [renV, renL]; grind)

theorem refHas_ok (h : H) (lo hi : Int) (l : List E) (hS : OkS lo hi l) (hb : OkBd (refRate lo hi l)) (sv : V) (hs : SlC h (entVs l) l.length sv) :
    CallOk Try.prog 24 [starV lo hi sv] h (.bool (!decide ((refRate lo hi l).2.1 * (refRate lo hi l).1.2 < (refRate lo hi l).1.1 * (refRate lo hi l).2.2))) h := by
  obtain ⟨vo, svC, hsv, hca, hvw⟩ := hs.view 0
  obtain ⟨cap, ex, rfl⟩ := Sv.pos hsv hS.one
  refine CallOk.run Try.func24 rfl rfl (argsC := [starV lo hi (.sl 0 0 l.length cap ex)]) (Nat.le_of_ble_eq_true rfl) [vo] (.cons (CaL.agg (.cons (.bare rfl) (.cons (.bare rfl) (.cons (hca _ rfl) .nil)))) .nil) (viewMc1 entVs_bare hvw) rfl (WpR.of_vc ?_)
  (conv => whnf); (repeat' (first | ((with_reducible refine ifb_mk (fun hc => ?_) (fun hc => ?_)) <;> ((try simp only [decide_eq_true_eq, decide_eq_false_iff_not, Bool.not_eq_true', Bool.not_eq_false', Int.not_lt, Int.not_le, ne_eq, Decidable.not_not, beq_iff_eq, List.cons.injEq, and_true] at hc); (first | (exfalso; omega) | conv => whnf))) | ((with_reducible refine And.intro True.intro ?_); conv => whnf) | ((with_reducible refine CallX.all ?_); refine CallW.of_ok (refRateOf_ok _ lo hi l hS _ (SlC.own rfl)) ?_; conv => whnf) | ((with_reducible refine CallX.all ?_); refine CallW.of_ok (refLess_ok _ _ _ _ _ (InR_mul hb.2.2.1 hb.2.1) (InR_mul hb.1 hb.2.2.2)) ?_; conv => whnf) | ((with_reducible refine And.intro ?hh ?_); (case hh => (unfold InR; (try dsimp only); omega)); conv => whnf) | ((with_reducible refine And.intro ?hh ?_); (case hh => ((try dsimp only); omega)); conv => whnf) | ((with_reducible refine And.intro ?hh ?_); (case hh => ((conv => whnf); (repeat' (first | exact True.intro | rfl | refine And.intro ?_ ?_)); done)); conv => whnf) | fail))
  all_goals (refine ⟨[], ?_, rfl, rfl, trivial, (by (repeat' (first | exact True.intro | rfl | refine And.intro ?_ ?_)))⟩; first | rfl | (simp only [renV, renL]; first | done | rfl | (congr 1; grind []) | grind []))
end Go.Proofs.D

namespace Go.Proofs.D
open Go.As
set_option maxRecDepth 20000
set_option linter.unusedVariables false
set_option linter.unusedSimpArgs false

theorem bndOf_red {lo hi : Int} {l : List E} (hS : OkS lo hi l) {p : Int × Int} (hp : p ∈ pairsL l.length) : (Int.gcd (bndOf lo hi l p).1.1 (bndOf lo hi l p).1.2 = 1) ∧ (Int.gcd (bndOf lo hi l p).2.1 (bndOf lo hi l p).2.2 = 1) := by
  rcases pairsL_mem.1 hp with rfl | ⟨i, j, h1, h2, rfl⟩
  · exact ⟨Int.gcd_one, Int.gcd_one⟩
  · have hgi : l[i]? = some l[i] := List.getElem?_eq_getElem _
    have hgj : l[j]? = some l[j] := List.getElem?_eq_getElem _
    rw [bndOf_two hgi hgj]
    have h3' := hS.inc _ _ _ _ h1 hgi hgj
    exact ⟨fr_gcd (by omega), fr_gcd (by omega)⟩

/-- The ends behind some pairs. -/
structure RefP (lo hi : Int) (l : List E) (S : List (Int × Int)) (a : Bd) : Prop where
  lm : ∃ p ∈ S, a.1 = (bndOf lo hi l p).1
  hm : ∃ p ∈ S, a.2 = (bndOf lo hi l p).2
  lb : ∀ p ∈ S, rq (bndOf lo hi l p).1 ≤ rq a.1
  hb : ∀ p ∈ S, rq a.2 ≤ rq (bndOf lo hi l p).2

theorem RefP.step {lo hi : Int} {l : List E} (hS : OkS lo hi l) {S : List (Int × Int)} (hSm : ∀ p ∈ S, p ∈ pairsL l.length) {a : Bd} (h : RefP lo hi l S a) {x : Int × Int} (hx : x ∈ pairsL l.length) : RefP lo hi l (S ++ [x]) (refStep lo hi l a x) := by
  obtain ⟨⟨p1, m1, e1⟩, ⟨p2, m2, e2⟩, h3, h4⟩ := h
  have b1 := bndOf_bd hS (hSm _ m1)
  have b2 := bndOf_bd hS (hSm _ m2)
  have bx := bndOf_bd hS hx
  have k1 : a.1.1 * (bndOf lo hi l x).1.2 < (bndOf lo hi l x).1.1 * a.1.2 ↔ rq a.1 < rq (bndOf lo hi l x).1 := by
    refine (rq_lt ?_ ?_).symm
    · rw [e1]; have := (bndOf_bd hS (hSm _ m1)).2.1; omega
    · have := bx.2.1; omega
  have k2 : (bndOf lo hi l x).2.1 * a.2.2 < a.2.1 * (bndOf lo hi l x).2.2 ↔ rq (bndOf lo hi l x).2 < rq a.2 := by
    refine (rq_lt ?_ ?_).symm
    · have := bx.2.2.2; omega
    · rw [e2]; have := b2.2.2.2; omega
  unfold refStep
  simp only [k1, k2]
  refine ⟨?_, ?_, ?_, ?_⟩
  · dsimp only; split
    · exact ⟨x, by simp, rfl⟩
    · exact ⟨p1, by simp [m1], e1⟩
  · dsimp only; split
    · exact ⟨x, by simp, rfl⟩
    · exact ⟨p2, by simp [m2], e2⟩
  · intro p hp
    dsimp only
    rcases List.mem_append.1 hp with hp | hp
    · have := h3 p hp
      split <;> grind
    · rw [List.mem_singleton.1 hp]
      split <;> grind
  · intro p hp
    dsimp only
    rcases List.mem_append.1 hp with hp | hp
    · have := h4 p hp
      split <;> grind
    · rw [List.mem_singleton.1 hp]
      split <;> grind

theorem refRate_P {lo hi : Int} {l : List E} (hS : OkS lo hi l) : RefP lo hi l (pairsL l.length) (refRate lo hi l) := by
  have : ∀ (xs S : List (Int × Int)) (a : Bd), (∀ p ∈ S ++ xs, p ∈ pairsL l.length) → RefP lo hi l S a → RefP lo hi l (S ++ xs) (xs.foldl (refStep lo hi l) a) := by
    intro xs
    induction xs with
    | nil => intro S a _ h; simpa using h
    | cons x xs ih =>
      intro S a hm h
      have := ih (S ++ [x]) _ (by simpa using hm) (h.step hS (fun p hp => hm p (by simp [hp])) (hm x (by simp)))
      simpa using this
  refine this _ [(-1, -1)] ((lo, 1), (hi, 1)) (fun p hp => hp) ⟨⟨(-1, -1), by simp, rfl⟩, ⟨(-1, -1), by simp, rfl⟩, fun p hp => ?_, fun p hp => ?_⟩
  · rw [List.mem_singleton.1 hp]; exact Rat.le_refl
  · rw [List.mem_singleton.1 hp]; exact Rat.le_refl

theorem refRate_eq {lo hi : Int} {l : List E} (hS : OkS lo hi l) : refRate lo hi l = (loQ lo hi l, hiQ lo hi l) := by
  obtain ⟨⟨p1, m1, e1⟩, ⟨p2, m2, e2⟩, h3, h4⟩ := refRate_P hS
  have t0 := tgt_ok hS (.inl rfl)
  have t1 := tgt_ok hS (.inr rfl)
  have b1 := bndOf_bd hS m1
  have b2 := bndOf_bd hS m2
  have c1 := bndOf_bd hS t0.mem
  have c2 := bndOf_bd hS t1.mem
  have q1 := t0.best p1 m1
  have q2 := t1.best p2 m2
  have r1 := h3 _ t0.mem
  have r2 := h4 _ t1.mem
  rw [e1] at r1
  rw [e2] at r2
  refine Prod.ext ?_ ?_
  · rw [e1]
    refine rq_inj (by have := b1.2.1; omega) (by have := c1.2.1; show 0 < (bndOf lo hi l _).1.2; omega) (bndOf_red hS m1).1 (bndOf_red hS t0.mem).1 (Rat.le_antisymm ?_ r1)
    exact Rat.neg_le_neg_iff.1 q1
  · rw [e2]
    refine rq_inj (by have := b2.2.2.2; omega) (by have := c2.2.2.2; show 0 < (bndOf lo hi l _).2.2; omega) (bndOf_red hS m2).2 (bndOf_red hS t1.mem).2 (Rat.le_antisymm r2 ?_)
    exact q2

theorem refRate2_ok (h : H) (lo hi : Int) (l : List E) (hS : OkS lo hi l) (sv : V) (hs : SlC h (entVs l) l.length sv) :
    CallOk Try.prog 21 [starV lo hi sv] h (.tup [qV (loQ lo hi l), qV (hiQ lo hi l)]) h := by
  have := refRateOf_ok h lo hi l hS sv hs
  rwa [refRate_eq hS] at this

theorem refHas2_ok (h : H) (lo hi : Int) (l : List E) (hS : OkS lo hi l) (sv : V) (hs : SlC h (entVs l) l.length sv) :
    CallOk Try.prog 24 [starV lo hi sv] h (.bool (hasM lo hi l)) h := by
  have hb : OkBd (refRate lo hi l) := by rw [refRate_eq hS]; have h1 := loQ_bd hS; have h2 := hiQ_bd hS; exact ⟨h1.1, h1.2, h2.1, h2.2⟩
  have := refHas_ok h lo hi l hS hb sv hs
  rw [refRate_eq hS] at this
  exact this

theorem refStarError_ok (h : H) (lo hi : Int) (l : List E) (sv : V) (hl : l.length ≤ 9223372036854775807) (hs : SlC h (entVs l) l.length sv) :
    CallOk Try.prog 20 [starV lo hi sv] h (.int .i64 (staErr lo hi l)) h := by
  obtain ⟨vo, svC, hsv, hca, hvw⟩ := hs.view 0
  refine CallOk.run Try.func20 rfl rfl (argsC := [starV lo hi svC]) (Nat.le_of_ble_eq_true rfl) [vo] (.cons (CaL.agg (.cons (.bare rfl) (.cons (.bare rfl) (.cons (hca _ rfl) .nil)))) .nil) (viewMc1 entVs_bare hvw) rfl (WpR.of_vc ?_)
  have hBare := @entVs_bare l
  cases hsv with
  | nil h0 =>
    have e1 : starErr lo hi l = 6 := by unfold starErr; rw [if_pos (by omega)]
    (conv => whnf); (repeat' (first | ((with_reducible refine ifb_mk (fun hc => ?_) (fun hc => ?_)) <;> ((try simp only [decide_eq_true_eq, decide_eq_false_iff_not, Bool.not_eq_true', Bool.not_eq_false', Int.not_lt, Int.not_le, ne_eq, Decidable.not_not, beq_iff_eq, List.cons.injEq, and_true] at hc); (first | (exfalso; omega) | conv => whnf))) | ((with_reducible refine And.intro True.intro ?_); conv => whnf) | ((with_reducible refine CallX.all ?_); refine CallW.of_ok (refCheckStar_ok _ lo hi l _ hl (SlC.none h0)) ?_; conv => whnf) | ((with_reducible refine And.intro ?hh ?_); (case hh => (unfold InR; (try dsimp only); omega)); conv => whnf) | ((with_reducible refine And.intro ?hh ?_); (case hh => ((try dsimp only); omega)); conv => whnf) | ((with_reducible refine And.intro ?hh ?_); (case hh => ((conv => whnf); (repeat' (first | exact True.intro | rfl | refine And.intro ?_ ?_)); done)); conv => whnf) | fail))
    all_goals (refine ⟨[], ?_, rfl, rfl, trivial, (by (repeat' (first | exact True.intro | rfl | refine And.intro ?_ ?_)))⟩; simp only [renV, renL]; grind [staErr])
  | @sl cap ex =>
  (conv => whnf); (repeat' (first | ((with_reducible refine ifb_mk (fun hc => ?_) (fun hc => ?_)) <;> ((try simp only [decide_eq_true_eq, decide_eq_false_iff_not, Bool.not_eq_true', Bool.not_eq_false', Int.not_lt, Int.not_le, ne_eq, Decidable.not_not, beq_iff_eq, List.cons.injEq, and_true] at hc); (first | (exfalso; omega) | conv => whnf))) | ((with_reducible refine And.intro True.intro ?_); conv => whnf) | ((with_reducible refine CallX.all ?_); refine CallW.of_ok (refCheckStar_ok _ lo hi l _ hl (SlC.own rfl)) ?_; conv => whnf) | ((with_reducible refine And.intro ?hh ?_); (case hh => (unfold InR; (try dsimp only); omega)); conv => whnf) | ((with_reducible refine And.intro ?hh ?_); (case hh => ((try dsimp only); omega)); conv => whnf) | ((with_reducible refine And.intro ?hh ?_); (case hh => ((conv => whnf); (repeat' (first | exact True.intro | rfl | refine And.intro ?_ ?_)); done)); conv => whnf) | fail))
  · (refine ⟨[], ?_, rfl, rfl, trivial, (by (repeat' (first | exact True.intro | rfl | refine And.intro ?_ ?_)))⟩; simp only [renV, renL]; grind [staErr])
  have hS := starErr_ok hc
  have e1 : staErr lo hi l = if hasM lo hi l then 0 else 17 := by unfold staErr; rw [if_pos hc]
  rw [e1]
  (conv => whnf); (repeat' (first | ((with_reducible refine ifb_mk (fun hc => ?_) (fun hc => ?_)) <;> ((try simp only [decide_eq_true_eq, decide_eq_false_iff_not, Bool.not_eq_true', Bool.not_eq_false', Int.not_lt, Int.not_le, ne_eq, Decidable.not_not, beq_iff_eq, List.cons.injEq, and_true] at hc); (first | (exfalso; omega) | conv => whnf))) | ((with_reducible refine And.intro True.intro ?_); conv => whnf) | ((with_reducible refine CallX.all ?_); refine CallW.of_ok (refHas2_ok _ lo hi l hS _ (SlC.own rfl)) ?_; conv => whnf) | ((with_reducible refine And.intro ?hh ?_); (case hh => (unfold InR; (try dsimp only); omega)); conv => whnf) | ((with_reducible refine And.intro ?hh ?_); (case hh => ((try dsimp only); omega)); conv => whnf) | ((with_reducible refine And.intro ?hh ?_); (case hh => ((conv => whnf); (repeat' (first | exact True.intro | rfl | refine And.intro ?_ ?_)); done)); conv => whnf) | fail))
  · rw [hc]; (refine ⟨[], ?_, rfl, rfl, trivial, (by (repeat' (first | exact True.intro | rfl | refine And.intro ?_ ?_)))⟩; simp only [renV, renL]; rfl)
  · rw [hc]; (refine ⟨[], ?_, rfl, rfl, trivial, (by (repeat' (first | exact True.intro | rfl | refine And.intro ?_ ?_)))⟩; simp only [renV, renL]; rfl)
end Go.Proofs.D

namespace Go.Proofs.D
open Go.As
set_option maxRecDepth 20000
set_option linter.unusedVariables false
set_option linter.unusedSimpArgs false

theorem great_ok (h : H) (lo hi : Int) (l : List E) (sv : V) (hl : l.length ≤ 9223372036854775807) (hs : SlC h (entVs l) l.length sv) :
    CallOk Try.prog 15 [starV lo hi sv] h (.bool (decide ((20 : Int) < (l.length : Int)))) h := by
  obtain ⟨vo, svC, hsv, hca, hvw⟩ := hs.view 0
  refine CallOk.run Try.func15 rfl rfl (argsC := [starV lo hi svC]) (Nat.le_of_ble_eq_true rfl) [vo] (.cons (CaL.agg (.cons (.bare rfl) (.cons (.bare rfl) (.cons (hca _ rfl) .nil)))) .nil) (viewMc1 entVs_bare hvw) rfl (WpR.of_vc ?_)
  cases hsv with
  | nil h0 =>
    rw [h0]
    (conv => whnf); (repeat' (first | ((with_reducible refine ifb_mk (fun hc => ?_) (fun hc => ?_)) <;> ((try simp only [decide_eq_true_eq, decide_eq_false_iff_not, Bool.not_eq_true', Bool.not_eq_false', Int.not_lt, Int.not_le, ne_eq, Decidable.not_not, beq_iff_eq, List.cons.injEq, and_true] at hc); (first | (exfalso; omega) | conv => whnf))) | ((with_reducible refine And.intro True.intro ?_); conv => whnf) | ((with_reducible refine And.intro ?hh ?_); (case hh => (unfold InR; (try dsimp only); omega)); conv => whnf) | ((with_reducible refine And.intro ?hh ?_); (case hh => ((try dsimp only); omega)); conv => whnf) | ((with_reducible refine And.intro ?hh ?_); (case hh => ((conv => whnf); (repeat' (first | exact True.intro | rfl | refine And.intro ?_ ?_)); done)); conv => whnf) | fail))
    all_goals (refine ⟨[], ?_, rfl, rfl, trivial, (by (repeat' (first | exact True.intro | rfl | refine And.intro ?_ ?_)))⟩; simp only [renV, renL]; grind)
  | @sl cap ex =>
    (conv => whnf); (repeat' (first | ((with_reducible refine ifb_mk (fun hc => ?_) (fun hc => ?_)) <;> ((try simp only [decide_eq_true_eq, decide_eq_false_iff_not, Bool.not_eq_true', Bool.not_eq_false', Int.not_lt, Int.not_le, ne_eq, Decidable.not_not, beq_iff_eq, List.cons.injEq, and_true] at hc); (first | (exfalso; omega) | conv => whnf))) | ((with_reducible refine And.intro True.intro ?_); conv => whnf) | ((with_reducible refine And.intro ?hh ?_); (case hh => (unfold InR; (try dsimp only); omega)); conv => whnf) | ((with_reducible refine And.intro ?hh ?_); (case hh => ((try dsimp only); omega)); conv => whnf) | ((with_reducible refine And.intro ?hh ?_); (case hh => ((conv => whnf); (repeat' (first | exact True.intro | rfl | refine And.intro ?_ ?_)); done)); conv => whnf) | fail))
    (refine ⟨[], ?_, rfl, rfl, trivial, (by (repeat' (first | exact True.intro | rfl | refine And.intro ?_ ?_)))⟩; simp only [renV, renL]; (first | done | rfl | simp | grind))


theorem driftBounds_ok (hw : ∀ h, CallOk Try.prog 16 [] h (.bool true) h) (h : H) (lo hi : Int) (l : List E) (sv : V) (high : Bool) (i j : Int) (hl : l.length ≤ 9223372036854775807) (hs : SlC h (entVs l) l.length sv) :
    CallOk Try.prog 3 [starV lo hi sv, .bool high, .int .i64 i, .int .i64 j] h (.bool true) h := by
  obtain ⟨vo, svC, hsv, hca, hvw⟩ := hs.view 0
  refine CallOk.run Try.func3 rfl rfl (argsC := [starV lo hi svC, .bool high, .int .i64 i, .int .i64 j]) (Nat.le_of_ble_eq_true rfl) [vo] (.cons (CaL.agg (.cons (.bare rfl) (.cons (.bare rfl) (.cons (hca _ rfl) .nil)))) (CaL.lt0 rfl)) (viewMc1 entVs_bare hvw) rfl (WpR.of_vc ?_)
  have hBare := @entVs_bare l
  have k0 := fun h' sv' hs' => great_ok h' lo hi l sv' hl hs'
  have k1 := fun h' sv' hs' => checkBound_ok h' lo hi l sv' high i j hl hs'
  have k2 := fun h' sv' hs' => refCheckBound_ok h' lo hi l sv' high i j hl hs'
  have k3 := fun h' sv' hs' => bound_ok h' lo hi l sv' high hl hs'
  have k4 := fun h' sv' hs' => refStarError_ok h' lo hi l sv' hl hs'
  cases hsv with
  | nil h0 =>
    have e1 : starErr lo hi l = 6 := by unfold starErr; rw [if_pos (by omega)]
    have e2 : staErr lo hi l = 6 := by unfold staErr; grind
    have he : staErr lo hi l ≠ 0 := by omega
    have e4 : boundR lo hi l high = ((0, 0), staErr lo hi l) := by unfold boundR; rw [if_neg he]
    rw [e4] at k3
    clear e1 e2
    generalize staErr lo hi l = e at k3 k4 he
    generalize chkB lo hi l high i j = x at k1 k2
    have hd : decide ((20 : Int) < (l.length : Int)) = false := by rw [h0]; rfl
    simp only [hd] at k0
    (conv => whnf); (repeat' (first | ((with_reducible refine ifb_mk (fun hc => ?_) (fun hc => ?_)) <;> ((try simp only [decide_eq_true_eq, decide_eq_false_iff_not, Bool.not_eq_true', Bool.not_eq_false', Int.not_lt, Int.not_le, ne_eq, Decidable.not_not, beq_iff_eq, List.cons.injEq, and_true] at hc); (first | (exfalso; omega) | conv => whnf))) | ((with_reducible refine And.intro True.intro ?_); conv => whnf) | ((with_reducible refine CallX.all ?_); refine CallW.of_ok (k0 _ _ (SlC.none h0)) ?_; conv => whnf) | ((with_reducible refine CallX.all ?_); refine CallW.of_ok (hw _) ?_; conv => whnf) | ((with_reducible refine CallX.all ?_); refine CallW.of_ok (k1 _ _ (SlC.none h0)) ?_; conv => whnf) | ((with_reducible refine CallX.all ?_); refine CallW.of_ok (k2 _ _ (SlC.none h0)) ?_; conv => whnf) | ((with_reducible refine CallX.all ?_); refine CallW.of_ok (k3 _ _ (SlC.none h0)) ?_; conv => whnf) | ((with_reducible refine CallX.all ?_); refine CallW.of_ok (k4 _ _ (SlC.none h0)) ?_; conv => whnf) | ((with_reducible refine grd_slow ?_); refine som_mk (a := ?_) ?hh ?_; (case hh => exact slow_neq (k := 2) (by kernel_rfl) [x.1.1, x.1.2] [x.1.1, x.1.2]); conv => whnf) | ((with_reducible refine And.intro ?hh ?_); (case hh => (unfold InR; (try dsimp only); omega)); conv => whnf) | ((with_reducible refine And.intro ?hh ?_); (case hh => ((try dsimp only); omega)); conv => whnf) | ((with_reducible refine And.intro ?hh ?_); (case hh => ((conv => whnf); (repeat' (first | exact True.intro | rfl | refine And.intro ?_ ?_)); done)); conv => whnf) | fail))
    all_goals (first | (exfalso; exact hc trivial) | (refine ⟨[], ?_, rfl, rfl, trivial, (by (repeat' (first | exact True.intro | rfl | refine And.intro ?_ ?_)))⟩; simp only [renV, renL]; (first | done | rfl | simp | grind)))
  | @sl cap ex =>
    generalize hx : chkB lo hi l high i j = x at k1 k2
    by_cases he : staErr lo hi l = 0
    · have hS := (staErr_OkS he).1
      have e4 : boundR lo hi l high = (tgt lo hi l (sideN high), 0) := by unfold boundR; rw [if_pos he]
      have k5 := fun h' sv' hs' => refCheckBound_ok h' lo hi l sv' high (tgt lo hi l (sideN high)).1 (tgt lo hi l (sideN high)).2 hl hs'
      have h0 : starErr lo hi l = 0 := by unfold staErr at he; grind
      have e5 : chkB lo hi l high (tgt lo hi l (sideN high)).1 (tgt lo hi l (sideN high)).2 = (if high then hiQ lo hi l else loQ lo hi l, 0) := by
        have ht := (tgt_ok hS (s := sideN high) (by cases high <;> simp [sideN])).mem
        have hp : isPairB l.length (tgt lo hi l (sideN high)).1 (tgt lo hi l (sideN high)).2 = true := isPairB_mem.2 ht
        rw [chkB_good h0 hp]
        cases high <;> rfl
      rw [e4] at k3
      rw [he] at k4
      rw [e5] at k5
      have k6 := fun h' sv' hs' => refRate2_ok h' lo hi l hS sv' hs'
      clear e4 e5 he hx h0
      generalize tgt lo hi l (sideN high) = t at k3 k5
      generalize hiQ lo hi l = hq at k5 k6
      generalize loQ lo hi l = lq at k5 k6
      cases high
      · (conv => whnf); (repeat' (first | ((with_reducible refine ifb_mk (fun hc => ?_) (fun hc => ?_)) <;> ((try simp only [decide_eq_true_eq, decide_eq_false_iff_not, Bool.not_eq_true', Bool.not_eq_false', Int.not_lt, Int.not_le, ne_eq, Decidable.not_not, beq_iff_eq, List.cons.injEq, and_true] at hc); (first | (exfalso; omega) | conv => whnf))) | ((with_reducible refine And.intro True.intro ?_); conv => whnf) | ((with_reducible refine CallX.all ?_); refine CallW.of_ok (k0 _ _ (SlC.own rfl)) ?_; conv => whnf) | ((with_reducible refine CallX.all ?_); refine CallW.of_ok (hw _) ?_; conv => whnf) | ((with_reducible refine CallX.all ?_); refine CallW.of_ok (k1 _ _ (SlC.own rfl)) ?_; conv => whnf) | ((with_reducible refine CallX.all ?_); refine CallW.of_ok (k2 _ _ (SlC.own rfl)) ?_; conv => whnf) | ((with_reducible refine CallX.all ?_); refine CallW.of_ok (k3 _ _ (SlC.own rfl)) ?_; conv => whnf) | ((with_reducible refine CallX.all ?_); refine CallW.of_ok (k4 _ _ (SlC.own rfl)) ?_; conv => whnf) | ((with_reducible refine CallX.all ?_); refine CallW.of_ok (k5 _ _ (SlC.own rfl)) ?_; conv => whnf) | ((with_reducible refine CallX.all ?_); refine CallW.of_ok (k6 _ _ (SlC.own rfl)) ?_; conv => whnf) | ((with_reducible refine grd_slow ?_); refine som_mk (a := ?_) ?hh ?_; (case hh => exact slow_neq (k := 2) (by kernel_rfl) [x.1.1, x.1.2] [x.1.1, x.1.2]); conv => whnf) | ((with_reducible refine grd_slow ?_); refine som_mk (a := ?_) ?hh ?_; (case hh => exact slow_eql (k := 2) (by kernel_rfl) [lq.1, lq.2] [lq.1, lq.2]); conv => whnf) | ((with_reducible refine And.intro ?hh ?_); (case hh => (unfold InR; (try dsimp only); omega)); conv => whnf) | ((with_reducible refine And.intro ?hh ?_); (case hh => ((try dsimp only); omega)); conv => whnf) | ((with_reducible refine And.intro ?hh ?_); (case hh => ((conv => whnf); (repeat' (first | exact True.intro | rfl | refine And.intro ?_ ?_)); done)); conv => whnf) | fail))
        all_goals (first | (exfalso; exact hc trivial) | (refine ⟨[], ?_, rfl, rfl, trivial, (by (repeat' (first | exact True.intro | rfl | refine And.intro ?_ ?_)))⟩; simp only [renV, renL]; (first | done | rfl | simp | grind)))
      · (conv => whnf); (repeat' (first | ((with_reducible refine ifb_mk (fun hc => ?_) (fun hc => ?_)) <;> ((try simp only [decide_eq_true_eq, decide_eq_false_iff_not, Bool.not_eq_true', Bool.not_eq_false', Int.not_lt, Int.not_le, ne_eq, Decidable.not_not, beq_iff_eq, List.cons.injEq, and_true] at hc); (first | (exfalso; omega) | conv => whnf))) | ((with_reducible refine And.intro True.intro ?_); conv => whnf) | ((with_reducible refine CallX.all ?_); refine CallW.of_ok (k0 _ _ (SlC.own rfl)) ?_; conv => whnf) | ((with_reducible refine CallX.all ?_); refine CallW.of_ok (hw _) ?_; conv => whnf) | ((with_reducible refine CallX.all ?_); refine CallW.of_ok (k1 _ _ (SlC.own rfl)) ?_; conv => whnf) | ((with_reducible refine CallX.all ?_); refine CallW.of_ok (k2 _ _ (SlC.own rfl)) ?_; conv => whnf) | ((with_reducible refine CallX.all ?_); refine CallW.of_ok (k3 _ _ (SlC.own rfl)) ?_; conv => whnf) | ((with_reducible refine CallX.all ?_); refine CallW.of_ok (k4 _ _ (SlC.own rfl)) ?_; conv => whnf) | ((with_reducible refine CallX.all ?_); refine CallW.of_ok (k5 _ _ (SlC.own rfl)) ?_; conv => whnf) | ((with_reducible refine CallX.all ?_); refine CallW.of_ok (k6 _ _ (SlC.own rfl)) ?_; conv => whnf) | ((with_reducible refine grd_slow ?_); refine som_mk (a := ?_) ?hh ?_; (case hh => exact slow_neq (k := 2) (by kernel_rfl) [x.1.1, x.1.2] [x.1.1, x.1.2]); conv => whnf) | ((with_reducible refine grd_slow ?_); refine som_mk (a := ?_) ?hh ?_; (case hh => exact slow_eql (k := 2) (by kernel_rfl) [hq.1, hq.2] [hq.1, hq.2]); conv => whnf) | ((with_reducible refine And.intro ?hh ?_); (case hh => (unfold InR; (try dsimp only); omega)); conv => whnf) | ((with_reducible refine And.intro ?hh ?_); (case hh => ((try dsimp only); omega)); conv => whnf) | ((with_reducible refine And.intro ?hh ?_); (case hh => ((conv => whnf); (repeat' (first | exact True.intro | rfl | refine And.intro ?_ ?_)); done)); conv => whnf) | fail))
        all_goals (first | (exfalso; exact hc trivial) | (refine ⟨[], ?_, rfl, rfl, trivial, (by (repeat' (first | exact True.intro | rfl | refine And.intro ?_ ?_)))⟩; simp only [renV, renL]; (first | done | rfl | simp | grind)))
    · have e4 : boundR lo hi l high = ((0, 0), staErr lo hi l) := by unfold boundR; rw [if_neg he]
      rw [e4] at k3
      generalize staErr lo hi l = e at k3 k4 he
      (conv => whnf); (repeat' (first | ((with_reducible refine ifb_mk (fun hc => ?_) (fun hc => ?_)) <;> ((try simp only [decide_eq_true_eq, decide_eq_false_iff_not, Bool.not_eq_true', Bool.not_eq_false', Int.not_lt, Int.not_le, ne_eq, Decidable.not_not, beq_iff_eq, List.cons.injEq, and_true] at hc); (first | (exfalso; omega) | conv => whnf))) | ((with_reducible refine And.intro True.intro ?_); conv => whnf) | ((with_reducible refine CallX.all ?_); refine CallW.of_ok (k0 _ _ (SlC.own rfl)) ?_; conv => whnf) | ((with_reducible refine CallX.all ?_); refine CallW.of_ok (hw _) ?_; conv => whnf) | ((with_reducible refine CallX.all ?_); refine CallW.of_ok (k1 _ _ (SlC.own rfl)) ?_; conv => whnf) | ((with_reducible refine CallX.all ?_); refine CallW.of_ok (k2 _ _ (SlC.own rfl)) ?_; conv => whnf) | ((with_reducible refine CallX.all ?_); refine CallW.of_ok (k3 _ _ (SlC.own rfl)) ?_; conv => whnf) | ((with_reducible refine CallX.all ?_); refine CallW.of_ok (k4 _ _ (SlC.own rfl)) ?_; conv => whnf) | ((with_reducible refine grd_slow ?_); refine som_mk (a := ?_) ?hh ?_; (case hh => exact slow_neq (k := 2) (by kernel_rfl) [x.1.1, x.1.2] [x.1.1, x.1.2]); conv => whnf) | ((with_reducible refine And.intro ?hh ?_); (case hh => (unfold InR; (try dsimp only); omega)); conv => whnf) | ((with_reducible refine And.intro ?hh ?_); (case hh => ((try dsimp only); omega)); conv => whnf) | ((with_reducible refine And.intro ?hh ?_); (case hh => ((conv => whnf); (repeat' (first | exact True.intro | rfl | refine And.intro ?_ ?_)); done)); conv => whnf) | fail))
      all_goals (first | (exfalso; exact hc trivial) | (refine ⟨[], ?_, rfl, rfl, trivial, (by (repeat' (first | exact True.intro | rfl | refine And.intro ?_ ?_)))⟩; simp only [renV, renL]; (first | done | rfl | simp | grind)))
end Go.Proofs.D

namespace Go.Proofs.D
open Go.As
set_option maxRecDepth 20000
set_option linter.unusedVariables false
set_option linter.unusedSimpArgs false

theorem clash_chk {lo hi : Int} {l : List E} (h : clashR lo hi l = 0) : chkC lo hi l (tgt lo hi l 0) (tgt lo hi l 1) = 0 ∧ starErr lo hi l = 0 ∧ hasM lo hi l = false := by
  unfold clashR at h
  have h0 : starErr lo hi l = 0 := by grind
  have hm : hasM lo hi l = false := by grind
  have hS := starErr_ok h0
  have t0 := isPairB_mem.2 (tgt_ok hS (s := 0) (.inl rfl)).mem
  have t1 := isPairB_mem.2 (tgt_ok hS (s := 1) (.inr rfl)).mem
  refine ⟨?_, h0, hm⟩
  have g0 : isPairB l.length (tgt lo hi l 0).1 (tgt lo hi l 0).2 = true := t0
  have g1 : isPairB l.length (tgt lo hi l 1).1 (tgt lo hi l 1).2 = true := t1
  rw [chkC_eq h0, g0, g1]
  unfold hasM loQ hiQ at hm
  simp only [Bool.not_eq_false', decide_eq_true_eq] at hm
  simp only [Bool.and_self, if_true]
  rw [if_pos hm]

theorem driftClashes_ok (hw : ∀ h, CallOk Try.prog 16 [] h (.bool true) h) (h : H) (lo hi : Int) (l : List E) (sv : V) (p q : Int × Int) (hl : l.length ≤ 9223372036854775807) (hs : SlC h (entVs l) l.length sv) :
    CallOk Try.prog 4 [starV lo hi sv, pV p, pV q] h (.bool true) h := by
  obtain ⟨vo, svC, hsv, hca, hvw⟩ := hs.view 0
  refine CallOk.run Try.func4 rfl rfl (argsC := [starV lo hi svC, pV p, pV q]) (Nat.le_of_ble_eq_true rfl) [vo] (.cons (CaL.agg (.cons (.bare rfl) (.cons (.bare rfl) (.cons (hca _ rfl) .nil)))) (CaL.lt0 rfl)) (viewMc1 entVs_bare hvw) rfl (WpR.of_vc ?_)
  have hBare := @entVs_bare l
  have k0 := fun h' sv' hs' => great_ok h' lo hi l sv' hl hs'
  have k1 := fun h' sv' hs' => clashF_ok h' lo hi l sv' hl hs'
  have k2 := fun h' sv' hs' => refCheckStar_ok h' lo hi l sv' hl hs'
  have k3 := fun h' sv' hs' => checkClash_ok h' lo hi l sv' p q hl hs'
  have k4 := fun h' sv' hs' => refCheckClash_ok h' lo hi l sv' p q hl hs'
  generalize chkC lo hi l p q = x at k3 k4
  cases hsv with
  | nil h0 =>
    have he : starErr lo hi l ≠ 0 := by unfold starErr; rw [if_pos (by omega)]; omega
    have e2 : clashR lo hi l = starErr lo hi l := by unfold clashR; rw [if_neg he]
    rw [e2] at k1
    generalize starErr lo hi l = e at k1 k2 he
    obtain ⟨P, hP⟩ : ∃ P : Int × Int, P = (0, 0) := ⟨_, rfl⟩
    simp only [if_neg he, ← hP] at k1
    have hd : decide ((20 : Int) < (l.length : Int)) = false := by rw [h0]; rfl
    simp only [hd] at k0
    (conv => whnf); (repeat' (first | ((with_reducible refine ifb_mk (fun hc => ?_) (fun hc => ?_)) <;> ((try simp only [decide_eq_true_eq, decide_eq_false_iff_not, Bool.not_eq_true', Bool.not_eq_false', Int.not_lt, Int.not_le, ne_eq, Decidable.not_not, beq_iff_eq, List.cons.injEq, and_true] at hc); (first | (exfalso; omega) | conv => whnf))) | ((with_reducible refine And.intro True.intro ?_); conv => whnf) | ((with_reducible refine CallX.all ?_); refine CallW.of_ok (k0 _ _ (SlC.none h0)) ?_; conv => whnf) | ((with_reducible refine CallX.all ?_); refine CallW.of_ok (hw _) ?_; conv => whnf) | ((with_reducible refine CallX.all ?_); refine CallW.of_ok (k1 _ _ (SlC.none h0)) ?_; conv => whnf) | ((with_reducible refine CallX.all ?_); refine CallW.of_ok (k2 _ _ (SlC.none h0)) ?_; conv => whnf) | ((with_reducible refine WpR.draw (id := 7) mixed [0, 1, 2, 3, 4, 5, 6, 8, 9, 10, 7, 11, 12, 13] [0, 0, 3, 7, 15, 15, 15, 127, 15, 15, 15, 2047, 4095, 8191] ?hh ?_); (case hh => kernel_rfl); conv => whnf) | ((with_reducible refine grd_ex ?_); refine ex_ok (k3 _ _ (SlC.none h0)) ?_; conv => whnf) | ((with_reducible refine grd_ex ?_); refine ex_ok (k4 _ _ (SlC.none h0)) ?_; conv => whnf) | ((with_reducible refine grd_slow ?_); refine som_mk (a := ?_) ?hh ?_; (case hh => exact slow_eql (k := 2) (by kernel_rfl) [P.1, P.2] [0, 0]); conv => whnf) | ((with_reducible refine And.intro ?hh ?_); (case hh => (unfold InR; (try dsimp only); omega)); conv => whnf) | ((with_reducible refine And.intro ?hh ?_); (case hh => ((try dsimp only); omega)); conv => whnf) | ((with_reducible refine And.intro ?hh ?_); (case hh => ((conv => whnf); (repeat' (first | exact True.intro | rfl | refine And.intro ?_ ?_)); done)); conv => whnf) | fail))
    all_goals (first | (exfalso; exact hc trivial) | (exfalso; apply hc; rw [hP]; exact ⟨rfl, rfl⟩) | (refine ⟨[], ?_, rfl, rfl, trivial, (by (repeat' (first | exact True.intro | rfl | refine And.intro ?_ ?_)))⟩; simp only [renV, renL]; (first | done | rfl | simp | grind)))
  | @sl cap ex =>
    by_cases he : clashR lo hi l = 0
    · obtain ⟨hc5, h0, hm⟩ := clash_chk he
      have hS := starErr_ok h0
      have k5 := fun h' sv' hs' => refCheckClash_ok h' lo hi l sv' (tgt lo hi l 0) (tgt lo hi l 1) hl hs'
      have k6 := fun h' sv' hs' => refHas2_ok h' lo hi l hS sv' hs'
      rw [hc5] at k5
      simp only [if_pos he] at k1
      rw [he] at k1
      rw [h0] at k2
      rw [hm] at k6
      clear hc5 h0 hm he
      generalize tgt lo hi l 0 = P at k1 k5
      generalize tgt lo hi l 1 = Q at k1 k5
      (conv => whnf); (repeat' (first | ((with_reducible refine ifb_mk (fun hc => ?_) (fun hc => ?_)) <;> ((try simp only [decide_eq_true_eq, decide_eq_false_iff_not, Bool.not_eq_true', Bool.not_eq_false', Int.not_lt, Int.not_le, ne_eq, Decidable.not_not, beq_iff_eq, List.cons.injEq, and_true] at hc); (first | (exfalso; omega) | conv => whnf))) | ((with_reducible refine And.intro True.intro ?_); conv => whnf) | ((with_reducible refine CallX.all ?_); refine CallW.of_ok (k0 _ _ (SlC.own rfl)) ?_; conv => whnf) | ((with_reducible refine CallX.all ?_); refine CallW.of_ok (hw _) ?_; conv => whnf) | ((with_reducible refine CallX.all ?_); refine CallW.of_ok (k1 _ _ (SlC.own rfl)) ?_; conv => whnf) | ((with_reducible refine CallX.all ?_); refine CallW.of_ok (k2 _ _ (SlC.own rfl)) ?_; conv => whnf) | ((with_reducible refine CallX.all ?_); refine CallW.of_ok (k6 _ _ (SlC.own rfl)) ?_; conv => whnf) | ((with_reducible refine WpR.draw (id := 7) mixed [0, 1, 2, 3, 4, 5, 6, 8, 9, 10, 7, 11, 12, 13] [0, 0, 3, 7, 15, 15, 15, 127, 15, 15, 15, 2047, 4095, 8191] ?hh ?_); (case hh => kernel_rfl); conv => whnf) | ((with_reducible refine grd_ex ?_); refine ex_ok (k3 _ _ (SlC.own rfl)) ?_; conv => whnf) | ((with_reducible refine grd_ex ?_); refine ex_ok (k4 _ _ (SlC.own rfl)) ?_; conv => whnf) | ((with_reducible refine CallX.all ?_); refine CallW.of_ok (k5 _ _ (SlC.own rfl)) ?_; conv => whnf) | ((with_reducible refine And.intro ?hh ?_); (case hh => (unfold InR; (try dsimp only); omega)); conv => whnf) | ((with_reducible refine And.intro ?hh ?_); (case hh => ((try dsimp only); omega)); conv => whnf) | ((with_reducible refine And.intro ?hh ?_); (case hh => ((conv => whnf); (repeat' (first | exact True.intro | rfl | refine And.intro ?_ ?_)); done)); conv => whnf) | fail))
      all_goals (first | (exfalso; exact hc trivial) | (exfalso; apply hc; rw [hP]; exact ⟨rfl, rfl⟩) | (refine ⟨[], ?_, rfl, rfl, trivial, (by (repeat' (first | exact True.intro | rfl | refine And.intro ?_ ?_)))⟩; simp only [renV, renL]; (first | done | rfl | simp | grind)))
    · obtain ⟨P, hP⟩ : ∃ P : Int × Int, P = (0, 0) := ⟨_, rfl⟩
      simp only [if_neg he, ← hP] at k1
      by_cases h0 : starErr lo hi l = 0
      · have hS := starErr_ok h0
        have k6 := fun h' sv' hs' => refHas2_ok h' lo hi l hS sv' hs'
        have hm : hasM lo hi l = true := by unfold clashR at he; grind
        have e2 : clashR lo hi l = 5 := by unfold clashR; rw [if_pos h0, hm]; rfl
        rw [e2] at k1
        rw [h0] at k2
        rw [hm] at k6
        (conv => whnf); (repeat' (first | ((with_reducible refine ifb_mk (fun hc => ?_) (fun hc => ?_)) <;> ((try simp only [decide_eq_true_eq, decide_eq_false_iff_not, Bool.not_eq_true', Bool.not_eq_false', Int.not_lt, Int.not_le, ne_eq, Decidable.not_not, beq_iff_eq, List.cons.injEq, and_true] at hc); (first | (exfalso; omega) | conv => whnf))) | ((with_reducible refine And.intro True.intro ?_); conv => whnf) | ((with_reducible refine CallX.all ?_); refine CallW.of_ok (k0 _ _ (SlC.own rfl)) ?_; conv => whnf) | ((with_reducible refine CallX.all ?_); refine CallW.of_ok (hw _) ?_; conv => whnf) | ((with_reducible refine CallX.all ?_); refine CallW.of_ok (k1 _ _ (SlC.own rfl)) ?_; conv => whnf) | ((with_reducible refine CallX.all ?_); refine CallW.of_ok (k2 _ _ (SlC.own rfl)) ?_; conv => whnf) | ((with_reducible refine CallX.all ?_); refine CallW.of_ok (k6 _ _ (SlC.own rfl)) ?_; conv => whnf) | ((with_reducible refine WpR.draw (id := 7) mixed [0, 1, 2, 3, 4, 5, 6, 8, 9, 10, 7, 11, 12, 13] [0, 0, 3, 7, 15, 15, 15, 127, 15, 15, 15, 2047, 4095, 8191] ?hh ?_); (case hh => kernel_rfl); conv => whnf) | ((with_reducible refine grd_ex ?_); refine ex_ok (k3 _ _ (SlC.own rfl)) ?_; conv => whnf) | ((with_reducible refine grd_ex ?_); refine ex_ok (k4 _ _ (SlC.own rfl)) ?_; conv => whnf) | ((with_reducible refine grd_slow ?_); refine som_mk (a := ?_) ?hh ?_; (case hh => exact slow_eql (k := 2) (by kernel_rfl) [P.1, P.2] [0, 0]); conv => whnf) | ((with_reducible refine And.intro ?hh ?_); (case hh => (unfold InR; (try dsimp only); omega)); conv => whnf) | ((with_reducible refine And.intro ?hh ?_); (case hh => ((try dsimp only); omega)); conv => whnf) | ((with_reducible refine And.intro ?hh ?_); (case hh => ((conv => whnf); (repeat' (first | exact True.intro | rfl | refine And.intro ?_ ?_)); done)); conv => whnf) | fail))
        all_goals (first | (exfalso; exact hc trivial) | (exfalso; apply hc; rw [hP]; exact ⟨rfl, rfl⟩) | (refine ⟨[], ?_, rfl, rfl, trivial, (by (repeat' (first | exact True.intro | rfl | refine And.intro ?_ ?_)))⟩; simp only [renV, renL]; (first | done | rfl | simp | grind)))
      · have e2 : clashR lo hi l = starErr lo hi l := by unfold clashR; rw [if_neg h0]
        rw [e2] at k1
        clear e2 he
        generalize starErr lo hi l = e at k1 k2 h0
        (conv => whnf); (repeat' (first | ((with_reducible refine ifb_mk (fun hc => ?_) (fun hc => ?_)) <;> ((try simp only [decide_eq_true_eq, decide_eq_false_iff_not, Bool.not_eq_true', Bool.not_eq_false', Int.not_lt, Int.not_le, ne_eq, Decidable.not_not, beq_iff_eq, List.cons.injEq, and_true] at hc); (first | (exfalso; omega) | conv => whnf))) | ((with_reducible refine And.intro True.intro ?_); conv => whnf) | ((with_reducible refine CallX.all ?_); refine CallW.of_ok (k0 _ _ (SlC.own rfl)) ?_; conv => whnf) | ((with_reducible refine CallX.all ?_); refine CallW.of_ok (hw _) ?_; conv => whnf) | ((with_reducible refine CallX.all ?_); refine CallW.of_ok (k1 _ _ (SlC.own rfl)) ?_; conv => whnf) | ((with_reducible refine CallX.all ?_); refine CallW.of_ok (k2 _ _ (SlC.own rfl)) ?_; conv => whnf) | ((with_reducible refine WpR.draw (id := 7) mixed [0, 1, 2, 3, 4, 5, 6, 8, 9, 10, 7, 11, 12, 13] [0, 0, 3, 7, 15, 15, 15, 127, 15, 15, 15, 2047, 4095, 8191] ?hh ?_); (case hh => kernel_rfl); conv => whnf) | ((with_reducible refine grd_ex ?_); refine ex_ok (k3 _ _ (SlC.own rfl)) ?_; conv => whnf) | ((with_reducible refine grd_ex ?_); refine ex_ok (k4 _ _ (SlC.own rfl)) ?_; conv => whnf) | ((with_reducible refine grd_slow ?_); refine som_mk (a := ?_) ?hh ?_; (case hh => exact slow_eql (k := 2) (by kernel_rfl) [P.1, P.2] [0, 0]); conv => whnf) | ((with_reducible refine And.intro ?hh ?_); (case hh => (unfold InR; (try dsimp only); omega)); conv => whnf) | ((with_reducible refine And.intro ?hh ?_); (case hh => ((try dsimp only); omega)); conv => whnf) | ((with_reducible refine And.intro ?hh ?_); (case hh => ((conv => whnf); (repeat' (first | exact True.intro | rfl | refine And.intro ?_ ?_)); done)); conv => whnf) | fail))
        all_goals (first | (exfalso; exact hc trivial) | (exfalso; apply hc; rw [hP]; exact ⟨rfl, rfl⟩) | (refine ⟨[], ?_, rfl, rfl, trivial, (by (repeat' (first | exact True.intro | rfl | refine And.intro ?_ ?_)))⟩; simp only [renV, renL]; (first | done | rfl | simp | grind)))
end Go.Proofs.D
