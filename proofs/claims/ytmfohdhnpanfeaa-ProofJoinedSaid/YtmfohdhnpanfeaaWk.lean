/- What the functions answer that the laws call, one after another (Wk). -/
import Derived.Test.YtmfohdhnpanfeaaAs6
import Derived.Test.YtmfohdhnpanfeaaBase

set_option linter.unusedVariables false
namespace Go.Proofs.Q
open Go.As
set_option maxRecDepth 20000
set_option linter.unusedVariables false
set_option linter.unusedSimpArgs false

/-! ### A map of matches -/

abbrev P2 := Int × Int
/-- a match, its number, when it came -/
abbrev Q := P2 × Int × Nat
def enc (q : Q) : Value × V × Nat := (key2 q.1, .int .i64 q.2.1, q.2.2)
def encL (L : List Q) : List (Value × V × Nat) := L.map enc
theorem keysPair : KeysOk Try.prog 110 key2 := keysOk_two (fs := _) rfl (by kernel_rfl) (by kernel_rfl) rfl
theorem encL_keys (L : List Q) : (encL L).map (·.1) = (L.map (·.1)).map key2 := by unfold encL enc; simp [List.map_map]
theorem findQ (em : Bool) (L : List Q) (p : P2) : findAt Try.prog em 110 (key2 p) (encL L) = some ((L.map (·.1)).findIdx? fun a => decide (p = a)) :=
  findAt_ok keysPair em p (L.map (·.1)) (encL_keys L)
theorem ltB_encL {n clock : Nat} {L : List Q} : ltB n (.map (encL L) clock) := by
  intro e he
  obtain ⟨x, _, rfl⟩ := List.mem_map.1 he
  rfl
theorem left_mem {L : List Q} {seen : List Nat} {e : Value × V × Nat} (h : e ∈ leftL (encL L) seen) : ∃ q ∈ L, e = enc q ∧ q.2.2 ∉ seen := by
  unfold leftL encL at h
  obtain ⟨h1, h2⟩ := List.mem_filter.1 h
  obtain ⟨q, hq, rfl⟩ := List.mem_map.1 h1
  exact ⟨q, hq, rfl, by simpa [enc] using h2⟩
theorem left_some {L : List Q} {seen : List Nat} {q : Q} (hq : q ∈ L) (hs : q.2.2 ∉ seen) : leftL (encL L) seen ≠ [] := by
  intro h
  have h2 : enc q ∈ leftL (encL L) seen := List.mem_filter.2 ⟨List.mem_map.2 ⟨q, hq, rfl⟩, by simpa [enc] using hs⟩
  rw [h] at h2
  cases h2
theorem find_stamp : ∀ {L : List Q} {q : Q}, q ∈ L → (∀ a ∈ L, a.2.2 = q.2.2 → a = q) → (encL L).find? (fun e => Nat.beq e.2.2 q.2.2) = some (enc q)
  | a :: L, q, hq, hu => by
    show List.find? _ (enc a :: encL L) = _
    rw [List.find?_cons]
    by_cases h : a.2.2 = q.2.2
    · have := hu a (List.mem_cons_self ..) h
      subst this
      have : Nat.beq (enc a).2.2 a.2.2 = true := Nat.beq_refl _
      rw [this]
    · have hb : Nat.beq (enc a).2.2 q.2.2 = false := by rw [Bool.eq_false_iff]; intro hc; exact h (Nat.eq_of_beq_eq_true hc)
      rw [hb]
      rcases List.mem_cons.1 hq with rfl | hq
      · exact absurd rfl h
      · exact find_stamp hq fun b hb => hu b (List.mem_cons_of_mem _ hb)
theorem find_key : ∀ {L : List Q} {q : Q}, q ∈ L → (∀ a ∈ L, a.1 = q.1 → a = q) → ∃ j, (L.map (·.1)).findIdx? (fun a => decide (q.1 = a)) = some j ∧ (encL L)[j]? = some (enc q)
  | a :: L, q, hq, hu => by
    rw [List.map_cons, List.findIdx?_cons]
    by_cases h : q.1 = a.1
    · have := hu a (List.mem_cons_self ..) h.symm
      subst this
      exact ⟨0, by simp, rfl⟩
    · rcases List.mem_cons.1 hq with rfl | hq
      · exact absurd rfl h
      · obtain ⟨j, h1, h2⟩ := find_key hq fun b hb => hu b (List.mem_cons_of_mem _ hb)
        exact ⟨j + 1, by rw [decide_eq_false h, h1]; rfl, h2⟩
def msr (L : List Q) (seen : List Nat) : Nat := (L.filter fun q => !seen.contains q.2.2).length
theorem filter_lt {α : Type} {p p' : α → Bool} (hpp : ∀ a, p' a = true → p a = true) : ∀ {l : List α} {x : α}, x ∈ l → p x = true → p' x = false → (l.filter p').length < (l.filter p).length
  | a :: l, x, hx, h1, h2 => by
    have hle : ∀ l : List α, (l.filter p').length ≤ (l.filter p).length := fun l => by
      induction l with
      | nil => exact Nat.le_refl _
      | cons b l ih =>
        by_cases hb : p' b = true
        · rw [List.filter_cons_of_pos hb, List.filter_cons_of_pos (hpp b hb)]; simp; exact ih
        · rw [List.filter_cons_of_neg hb]
          by_cases hc : p b = true
          · rw [List.filter_cons_of_pos hc]; simp; omega
          · rw [List.filter_cons_of_neg hc]; exact ih
    rcases List.mem_cons.1 hx with rfl | hx
    · rw [List.filter_cons_of_pos h1, List.filter_cons_of_neg (by rw [h2]; decide)]
      have := hle l
      simp; omega
    · have ih := filter_lt hpp hx h1 h2
      by_cases hb : p' a = true
      · rw [List.filter_cons_of_pos hb, List.filter_cons_of_pos (hpp a hb)]; simp; exact ih
      · rw [List.filter_cons_of_neg hb]
        by_cases hc : p a = true
        · rw [List.filter_cons_of_pos hc]; simp; omega
        · rw [List.filter_cons_of_neg hc]; exact ih
theorem msr_lt {L : List Q} {seen : List Nat} {q : Q} (hq : q ∈ L) (hs : q.2.2 ∉ seen) : msr L (seen ++ [q.2.2]) < msr L seen :=
  filter_lt (fun a ha => by
    simp only [Bool.not_eq_true', List.contains_eq_mem, List.mem_append, decide_eq_false_iff_not, not_or] at ha ⊢
    exact ha.1) hq (by simpa using hs) (by simp)
theorem last_snoc {α : Type} (l : List α) (x : α) : (l ++ [x]).getLast? = some x := by simp


/-- The greatest number, 0 at least. -/
def mxL (L : List Q) : Int := L.foldr (fun q m => max q.2.1 m) 0
theorem mxL_nn : ∀ L : List Q, 0 ≤ mxL L
  | [] => Int.le_refl _
  | q :: L => by have := mxL_nn L; show 0 ≤ max q.2.1 (mxL L); omega
theorem mxL_ge : ∀ {L : List Q} {q : Q}, q ∈ L → q.2.1 ≤ mxL L
  | a :: L, q, h => by
    show q.2.1 ≤ max a.2.1 (mxL L)
    rcases List.mem_cons.1 h with rfl | h
    · omega
    · have := mxL_ge h; omega
theorem mxL_at : ∀ L : List Q, mxL L = 0 ∨ ∃ q ∈ L, mxL L = q.2.1
  | [] => .inl rfl
  | a :: L => by
    have e : mxL (a :: L) = max a.2.1 (mxL L) := rfl
    by_cases h : mxL L ≤ a.2.1
    · exact .inr ⟨a, List.mem_cons_self .., by rw [e]; omega⟩
    · rcases mxL_at L with h0 | ⟨q, hq, h1⟩
      · exact .inl (by rw [e]; omega)
      · exact .inr ⟨q, List.mem_cons_of_mem _ hq, by rw [e]; omega⟩
theorem mxL_eq {L : List Q} {x : Int} (h0 : 0 ≤ x) (h1 : ∀ q ∈ L, q.2.1 ≤ x) (h2 : x = 0 ∨ ∃ q ∈ L, x = q.2.1) : x = mxL L := by
  have h3 := mxL_nn L
  have h4 : x ≤ mxL L := by
    rcases h2 with rfl | ⟨q, hq, rfl⟩
    · exact h3
    · exact mxL_ge hq
  have h5 : mxL L ≤ x := by
    rcases mxL_at L with h | ⟨q, hq, h⟩
    · omega
    · have := h1 q hq; omega
  omega
theorem left_nil {L : List Q} {seen : List Nat} (h : leftL (encL L) seen = []) : ∀ q ∈ L, q.2.2 ∈ seen := by
  intro q hq
  by_cases hs : q.2.2 ∈ seen
  · exact hs
  · exact absurd h (left_some hq hs)
theorem max_ilt (a b : Int) : (match ilt a b with | true => b | false => a) = max a b := by
  rw [ilt_eq]
  by_cases h : a < b
  · rw [decide_eq_true h]; show b = _; omega
  · rw [decide_eq_false h]; show a = _; omega
set_option maxHeartbeats 8000000 in
/-- The greatest number of a map, in whatever order. -/
theorem greatestLabel_ok (h : H) (mb : Nat) (L : List Q) (clock : Nat) (hm : h.get mb = some (.map (encL L) clock)) (hb : ∀ q ∈ L, q.2.2 < clock) (hs : ∀ q ∈ L, ∀ a ∈ L, a.2.2 = q.2.2 → a = q) :
    CallOk Try.prog 65 [.map mb] h (.int .i64 (mxL L)) h := by
  have hview : ViewM h [some (mb, 0)] [.map (encL L) clock] := by
    refine viewM_of ⟨?_, trivial⟩ (fun k k' j o o' hk hk' hmp => ?_)
    · intro j o hj
      cases hj
      exact ⟨rfl, hm, fun e he => by obtain ⟨x, _, rfl⟩ := List.mem_map.1 he; rfl⟩
    · match k, k' with
      | 0, 0 => rfl
      | 0, k + 1 => simp at hk'
      | k + 1, _ => simp at hk
  refine CallOk.run Try.func65 rfl rfl (argsC := [.map 0]) (Nat.le_of_ble_eq_true rfl) _ (.cons (.map (b := mb) (k := 0) rfl) .nil) hview rfl (WpR.of_vc ?_)
  (conv => whnf); (repeat' (first | ((with_reducible refine ifb_mk (fun hc => ?_) (fun hc => ?_)) <;> ((try simp only [decide_eq_true_eq, decide_eq_false_iff_not, Bool.not_eq_true', Bool.not_eq_false', Int.not_lt, Int.not_le, ne_eq, Decidable.not_not, beq_iff_eq, List.cons.injEq, and_true] at hc); (first | (exfalso; omega) | exact absurd True.intro hc | conv => whnf))) | ((with_reducible refine And.intro True.intro ?_); conv => whnf) | ((with_reducible refine CallX.all (f := 89) ?_); refine CallW.inline Try.func89 rfl rfl (Nat.le_of_ble_eq_true rfl) (WpR.of_vc ?_); conv => whnf) | ((with_reducible refine CallX.all (f := 88) ?_); refine CallW.inline Try.func88 rfl rfl (Nat.le_of_ble_eq_true rfl) (WpR.of_vc ?_); conv => whnf) | ((with_reducible refine RangeX.all ?_); conv => whnf) | ((with_reducible refine CallW.inline (f := 100) Try.func100 rfl rfl (Nat.le_of_ble_eq_true rfl) (WpR.of_vc ?_)); conv => whnf) | ((with_reducible refine And.intro ?hh ?_); (case hh => exact condA); conv => whnf) | fail))
  have hMap : ∀ (k : Nat) (c : Nat), ltB k (.map (encL L) c) := fun k c => ltB_encL
  have hMap2 : ∀ seen : List Nat, ltB 6 (.iter 0 clock seen clock) := fun seen => by show 0 < 6; decide
  have hM2 : ltB 6 (.map (encL L) clock) := ltB_encL
  refine WpR.loopA (ι := List Nat × Int) [] [0, 1] [2, 5] [] 6 (fun _ => [(6, .ptr 5 0)]) (fun p => [(2, .cells (ofL [.int .i64 p.2] 0) true none), (5, .iter 0 clock p.1 clock)]) (fun p => msr L p.1) (fun p => 0 ≤ p.2 ∧ (∀ q ∈ L, q.2.2 ∈ p.1 → q.2.1 ≤ p.2) ∧ (p.2 = 0 ∨ ∃ q ∈ L, p.2 = q.2.1)) ?_ (([], 0)) (⟨Int.le_refl _, fun q _ h => (by cases h), .inl rfl⟩) [] ⟨rfl, rfl, (by (repeat' (first | exact True.intro | rfl | exact gr_ren rfl | exact aV_ren rfl | exact aW_ren rfl rfl | refine And.intro ?_ ?_))), (by (repeat' (first | exact True.intro | rfl | exact gr_ren rfl | exact aV_ren rfl | exact aW_ren rfl rfl | refine And.intro ?_ ?_))), (by (repeat' (first | exact True.intro | rfl | exact gr_ren rfl | exact aV_ren rfl | exact aW_ren rfl rfl | refine And.intro ?_ ?_))), ⟨.inr ⟨_, rfl, SubQ.same (n := 1000) (Y := []) (fun _ _ _ => rfl) (by first | exact True.intro | exact ltB_all rfl | exact ltB_ofLb (by first | exact bare0_ints | assumption | exact gI_bare _ | exact gT_bare _ | exact gP_bare _ | exact bVs_bare | exact iVs_bare | exact mVs_bare | (intro v hv; (repeat (rcases List.mem_cons.1 hv with rfl | hv; exact rfl)); exact absurd hv (List.not_mem_nil))) | exact ltB_loop rfl rfl | exact hMap _ | exact hMap _ _ | exact hMap2 _ | exact hMap2 _ _ | exact hMapA _ | exact hMapA _ _ | exact hMapB _ | exact hMapB _ _ | exact hMapC _ | exact hMapC _ _ | exact hMapD _ | exact hMapD _ _ | exact grB_lt (by first | exact bare0_ints | assumption | exact gI_bare _ | exact gT_bare _ | exact gP_bare _ | exact bVs_bare | exact iVs_bare | exact mVs_bare | (intro v hv; (repeat (rcases List.mem_cons.1 hv with rfl | hv; exact rfl)); exact absurd hv (List.not_mem_nil))) _ | exact ltB_encL | exact ltB_map0 | assumption) (avB_nil _) rfl⟩, .inr ⟨_, rfl, .iter⟩, trivial⟩, rfl, rfl⟩
  rintro ⟨seen, acc⟩ ⟨j1, j2, j3⟩
  dsimp only at j1 j2 j3
  refine WpR.of_vc ?_
  have hsz : ∀ e ∈ encL L, e.2.2 < clock := fun e he => by
    obtain ⟨q, hq, rfl⟩ := List.mem_map.1 he
    exact hb q hq
  conv => whnf
  refine ⟨hsz, Nat.le_refl _, fun hl => ?_, fun e he => ?_⟩
  · have e : acc = mxL L := mxL_eq j1 (fun q hq => j2 q hq (left_nil hl q hq)) j3
    rw [← e]
    (conv => whnf); (repeat' (first | ((with_reducible refine ifb_mk (fun hc => ?_) (fun hc => ?_)) <;> ((try simp only [decide_eq_true_eq, decide_eq_false_iff_not, Bool.not_eq_true', Bool.not_eq_false', Int.not_lt, Int.not_le, ne_eq, Decidable.not_not, beq_iff_eq, List.cons.injEq, and_true] at hc); (first | (exfalso; omega) | exact absurd True.intro hc | conv => whnf))) | ((with_reducible refine And.intro True.intro ?_); conv => whnf) | ((with_reducible refine And.intro ?hh ?_); (case hh => exact condA); conv => whnf) | fail))
    (refine ⟨[], ?_, rfl, rfl, trivial, trivs⟩; simp only [renV, renL]; (first | done | rfl | (simp; done) | (simp; omega) | grind))
  · obtain ⟨q, hq, rfl, hns⟩ := left_mem he
    have hst := find_stamp hq (hs q hq)
    have hmm := msr_lt hq hns
    have e : (match ilt acc q.2.1 with | true => q.2.1 | false => acc) = max acc q.2.1 := max_ilt _ _
    (conv => whnf); (repeat' (first | ((with_reducible refine ifb_mk (fun hc => ?_) (fun hc => ?_)) <;> ((try simp only [decide_eq_true_eq, decide_eq_false_iff_not, Bool.not_eq_true', Bool.not_eq_false', Int.not_lt, Int.not_le, ne_eq, Decidable.not_not, beq_iff_eq, List.cons.injEq, and_true] at hc); (first | (exfalso; omega) | exact absurd True.intro hc | conv => whnf))) | ((with_reducible refine And.intro True.intro ?_); conv => whnf) | (refine som_mk (last_snoc _ _) ?_; conv => whnf) | ((with_reducible refine grd_and ?_); refine And.intro (rfl) ?_; conv => whnf) | (refine som_mk (hst) ?_; conv => whnf) | ((with_reducible refine YldX.all ?_); refine YldW.inline rfl rfl rfl (WpR.of_vc ?_); conv => whnf) | ((with_reducible refine And.intro ?hh ?_); (case hh => exact condA); conv => whnf) | fail))
    refine ⟨_, rfl, rfl, WpR.of_vc ?_⟩
    (conv => whnf); (repeat' (first | ((with_reducible refine ifb_mk (fun hc => ?_) (fun hc => ?_)) <;> ((try simp only [decide_eq_true_eq, decide_eq_false_iff_not, Bool.not_eq_true', Bool.not_eq_false', Int.not_lt, Int.not_le, ne_eq, Decidable.not_not, beq_iff_eq, List.cons.injEq, and_true] at hc); (first | (exfalso; omega) | exact absurd True.intro hc | conv => whnf))) | ((with_reducible refine And.intro True.intro ?_); conv => whnf) | ((with_reducible refine And.intro ?hh ?_); (case hh => exact condA); conv => whnf) | fail))
    refine ⟨_, _, rfl, ?_⟩
    (conv => whnf); (repeat' (first | ((with_reducible refine ifb_mk (fun hc => ?_) (fun hc => ?_)) <;> ((try simp only [decide_eq_true_eq, decide_eq_false_iff_not, Bool.not_eq_true', Bool.not_eq_false', Int.not_lt, Int.not_le, ne_eq, Decidable.not_not, beq_iff_eq, List.cons.injEq, and_true] at hc); (first | (exfalso; omega) | exact absurd True.intro hc | conv => whnf))) | ((with_reducible refine And.intro True.intro ?_); conv => whnf) | ((with_reducible refine And.intro ?hh ?_); (case hh => exact condA); conv => whnf) | fail))
    refine ⟨(seen ++ [q.2.2], (match ilt acc q.2.1 with | true => q.2.1 | false => acc)), [], hmm, ⟨?_, ?_, ?_⟩, ⟨rfl, rfl, (by (repeat' (first | exact True.intro | rfl | exact gr_ren rfl | exact aV_ren rfl | exact aW_ren rfl rfl | refine And.intro ?_ ?_))), (by (repeat' (first | exact True.intro | rfl | exact gr_ren rfl | exact aV_ren rfl | exact aW_ren rfl rfl | refine And.intro ?_ ?_))), (by (repeat' (first | exact True.intro | rfl | exact gr_ren rfl | exact aV_ren rfl | exact aW_ren rfl rfl | refine And.intro ?_ ?_))), ⟨.inr ⟨_, rfl, SubQ.same (n := 1000) (Y := []) (fun _ _ _ => rfl) (by first | exact True.intro | exact ltB_all rfl | exact ltB_ofLb (by first | exact bare0_ints | assumption | exact gI_bare _ | exact gT_bare _ | exact gP_bare _ | exact bVs_bare | exact iVs_bare | exact mVs_bare | (intro v hv; (repeat (rcases List.mem_cons.1 hv with rfl | hv; exact rfl)); exact absurd hv (List.not_mem_nil))) | exact ltB_loop rfl rfl | exact hMap _ | exact hMap _ _ | exact hMap2 _ | exact hMap2 _ _ | exact hMapA _ | exact hMapA _ _ | exact hMapB _ | exact hMapB _ _ | exact hMapC _ | exact hMapC _ _ | exact hMapD _ | exact hMapD _ _ | exact grB_lt (by first | exact bare0_ints | assumption | exact gI_bare _ | exact gT_bare _ | exact gP_bare _ | exact bVs_bare | exact iVs_bare | exact mVs_bare | (intro v hv; (repeat (rcases List.mem_cons.1 hv with rfl | hv; exact rfl)); exact absurd hv (List.not_mem_nil))) _ | exact ltB_encL | exact ltB_map0 | assumption) (avB_nil _) rfl⟩, .inr ⟨_, rfl, .iter⟩, trivial⟩, rfl, rfl⟩⟩
    · dsimp only; omega
    · dsimp only
      intro a ha has
      rcases List.mem_append.1 has with h | h
      · have := j2 a ha h; omega
      · have := hs q hq a ha (List.mem_singleton.1 h)
        subst this; omega
    · dsimp only
      by_cases hle : q.2.1 ≤ acc
      · rw [e, show max acc q.2.1 = acc from by omega]; exact j3
      · exact .inr ⟨q, hq, by rw [e]; omega⟩
end Go.Proofs.Q

namespace Go.Proofs.Q
open Go.As
set_option maxRecDepth 20000
set_option linter.unusedVariables false
set_option linter.unusedSimpArgs false

/-! ### Such calls, known wherever they come -/

def decP : Value → Option P2
  | .agg a => (match a.toList with
    | [.int .i64 x, .int .i64 y] => some (x, y)
    | _ => none)
  | _ => none
theorem decP_eq {v : Value} {p : P2} (h : decP v = some p) : v = key2 p := by
  unfold decP at h
  split at h
  · rename_i a
    split at h
    · rename_i x y ha
      cases h
      show Value.agg a = intsV [x, y]
      unfold intsV
      congr 1
      apply Array.toList_inj.1
      rw [ha]; rfl
    · cases h
  · cases h
def decE (e : Value × V × Nat) : Option Q := match decP e.1, e.2.1 with
  | some p, .int .i64 s => some (p, s, e.2.2)
  | _, _ => none
theorem decE_eq {e : Value × V × Nat} {q : Q} (h : decE e = some q) : e = enc q := by
  unfold decE at h
  obtain ⟨v, u, n⟩ := e
  dsimp only at h
  split at h
  · rename_i p s hp
    cases h
    rw [decP_eq hp]; rfl
  · cases h
def decL : List (Value × V × Nat) → Option (List Q)
  | [] => some []
  | e :: l => match decE e, decL l with
    | some q, some r => some (q :: r)
    | _, _ => none
theorem decL_eq : ∀ {es : List (Value × V × Nat)} {L : List Q}, decL es = some L → es = encL L
  | [], L, h => by cases h; rfl
  | e :: l, L, h => by
    simp only [decL] at h
    split at h
    · rename_i q r h1 h2
      cases h
      rw [decE_eq h1, decL_eq h2]; rfl
    · cases h
def p2eq (a b : P2) : Bool := ieq a.1 b.1 && ieq a.2 b.2
theorem p2eq_iff {a b : P2} : p2eq a b = true ↔ a = b := by
  obtain ⟨a1, a2⟩ := a
  obtain ⟨b1, b2⟩ := b
  unfold p2eq
  rw [ieq_eq, ieq_eq]
  simp
def distQ : List Q → Bool
  | [] => true
  | q :: l => (l.all fun a => !p2eq a.1 q.1 && !Nat.beq a.2.2 q.2.2) && distQ l
theorem distQ_spec : ∀ {L : List Q}, distQ L = true → ∀ q ∈ L, ∀ a ∈ L, (a.1 = q.1 ∨ a.2.2 = q.2.2) → a = q
  | [], _, q, hq, _, _, _ => by cases hq
  | b :: L, h, q, hq, a, ha, he => by
    simp only [distQ, Bool.and_eq_true, List.all_eq_true, Bool.not_eq_true'] at h
    obtain ⟨h1, h2⟩ := h
    have key : ∀ x ∈ L, x.1 ≠ b.1 ∧ x.2.2 ≠ b.2.2 := fun x hx => by
      obtain ⟨g1, g2⟩ := h1 x hx
      exact ⟨fun hc => (by rw [p2eq_iff.2 hc] at g1; cases g1), fun hc => (by rw [hc, Nat.beq_refl] at g2; cases g2)⟩
    rcases List.mem_cons.1 hq with hq1 | hq1
    · rcases List.mem_cons.1 ha with ha1 | ha1
      · rw [hq1, ha1]
      · subst hq1; exact (he.elim (key a ha1).1 (key a ha1).2).elim
    · rcases List.mem_cons.1 ha with ha1 | ha1
      · subst ha1; exact (he.elim (fun h => (key q hq1).1 h.symm) (fun h => (key q hq1).2 h.symm)).elim
      · exact distQ_spec h2 q hq1 a ha1 he


noncomputable def kGr : Memo := fun f args h => match Nat.beq f 65 with
  | false => none
  | true => (match args with
    | [.map mb] => (match h.get mb with
      | some (.map es clock) => (match decL es with
        | some L => (match (L.all fun q => Nat.blt q.2.2 clock) && distQ L with
          | true => some (.int .i64 (mxI L), h)
          | false => none)
        | none => none)
      | _ => none)
    | _ => none)
where mxI : List Q → Int
  | [] => 0
  | q :: L => (match ilt q.2.1 (mxI L) with | true => mxI L | false => q.2.1)
theorem mxI_eq : ∀ L : List Q, kGr.mxI L = mxL L
  | [] => rfl
  | q :: L => by
    have e : kGr.mxI (q :: L) = (match ilt q.2.1 (kGr.mxI L) with | true => kGr.mxI L | false => q.2.1) := rfl
    rw [e]; refine (max_ilt q.2.1 (kGr.mxI L)).trans ?_; rw [mxI_eq L]; rfl
theorem kGr_ok : MemoOk Try.prog kGr := by
  intro f args h v h' he
  unfold kGr at he
  split at he
  · cases he
  · rename_i hf
    have hf' := Nat.eq_of_beq_eq_true hf
    subst hf'
    split at he
    · rename_i mb
      split at he
      · rename_i es clock hm
        split at he
        · rename_i L hL
          split at he
          · rename_i hok
            cases he
            rw [decL_eq hL] at hm
            simp only [Bool.and_eq_true, List.all_eq_true, Nat.blt_eq] at hok
            have hd := distQ_spec hok.2
            rw [mxI_eq]
            exact greatestLabel_ok h mb L clock hm hok.1 (fun q hq a ha h => hd q hq a ha (.inr h))
          · cases he
        · cases he
      · cases he
    · cases he
end Go.Proofs.Q

namespace Go.Proofs.Q
open Go.As
set_option maxRecDepth 20000
set_option linter.unusedVariables false
set_option linter.unusedSimpArgs false

/-! ### Matches -/

def mtV (i j : Int) : V := .agg [.int .i64 i, .int .i64 j]
theorem differs_ok (h : H) (a b : List UInt8) (i j : Nat) (hi : i < a.length) (hj : j < b.length) : CallOk Try.prog 73 [.agg [tx a, tx b], mtV i j] h (.bool (decide (byteAt a i ≠ byteAt b j))) h := by
  refine CallOk.run0 Try.func73 rfl rfl rfl rfl rfl (WpR.of_vc ?_)
  (conv => whnf); (repeat' (first | ((with_reducible refine ifb_mk (fun hc => ?_) (fun hc => ?_)) <;> ((try simp only [decide_eq_true_eq, decide_eq_false_iff_not, Bool.not_eq_true', Bool.not_eq_false', Int.not_lt, Int.not_le, ne_eq, Decidable.not_not, beq_iff_eq, List.cons.injEq, and_true] at hc); (first | (exfalso; omega) | exact absurd True.intro hc | conv => whnf))) | ((with_reducible refine And.intro True.intro ?_); conv => whnf) | ((with_reducible refine WpR.draw (id := 1) mixed [0, 1, 2, 3, 4, 5, 6, 7, 8, 9, 10, 11] [0, 1, 0, 4, 15, 0, 32, 0, 128, 480, 1023, 2047] ?hh ?_); (case hh => kernel_rfl); conv => whnf) | ((with_reducible refine grd_and ?_); refine And.intro (hi) ?_; conv => whnf) | ((with_reducible refine grd_and ?_); refine And.intro (hj) ?_; conv => whnf) | ((with_reducible refine And.intro ?hh ?_); (case hh => exact condA); conv => whnf) | fail))
  (refine ⟨[], ?_, rfl, rfl, trivial, trivs⟩; simp only [renV, renL]; (first | done | rfl | (simp; done) | (simp; omega) | grind))
theorem isBefore_ok (h : H) (i j k l : Int) : CallOk Try.prog 95 [mtV i j, mtV k l] h (.bool (decide (i < k ∧ j < l))) h := by
  refine CallOk.run0 Try.func95 rfl rfl rfl rfl rfl (WpR.of_vc ?_)
  by_cases h1 : i < k
  · rw [show decide (i < k ∧ j < l) = decide (j < l) from decide_eq_decide.2 ⟨fun h => h.2, fun h => ⟨h1, h⟩⟩]
    (conv => whnf); (repeat' (first | ((with_reducible refine ifb_mk (fun hc => ?_) (fun hc => ?_)) <;> ((try simp only [decide_eq_true_eq, decide_eq_false_iff_not, Bool.not_eq_true', Bool.not_eq_false', Int.not_lt, Int.not_le, ne_eq, Decidable.not_not, beq_iff_eq, List.cons.injEq, and_true] at hc); (first | (exfalso; omega) | exact absurd True.intro hc | conv => whnf))) | ((with_reducible refine And.intro True.intro ?_); conv => whnf) | ((with_reducible refine And.intro ?hh ?_); (case hh => exact condA); conv => whnf) | fail))
    all_goals first | (refine ⟨[], ?_, rfl, rfl, trivial, trivs⟩; simp only [renV, renL]; (first | done | rfl | (simp; done) | (simp; omega) | grind)) | (exfalso; omega)
  · rw [decide_eq_false (show ¬ (i < k ∧ j < l) from fun h => h1 h.1)]
    (conv => whnf); (repeat' (first | ((with_reducible refine ifb_mk (fun hc => ?_) (fun hc => ?_)) <;> ((try simp only [decide_eq_true_eq, decide_eq_false_iff_not, Bool.not_eq_true', Bool.not_eq_false', Int.not_lt, Int.not_le, ne_eq, Decidable.not_not, beq_iff_eq, List.cons.injEq, and_true] at hc); (first | (exfalso; omega) | exact absurd True.intro hc | conv => whnf))) | ((with_reducible refine And.intro True.intro ?_); conv => whnf) | ((with_reducible refine And.intro ?hh ?_); (case hh => exact condA); conv => whnf) | fail))
    all_goals first | (refine ⟨[], ?_, rfl, rfl, trivial, trivs⟩; simp only [renV, renL]; (first | done | rfl | (simp; done) | (simp; omega) | grind)) | (exfalso; omega)

noncomputable def kDf (k : Memo) : Memo := fun f args h => match Nat.beq f 73 with
  | true => (match args with
    | [.agg [.str ⟨⟨a⟩⟩, .str ⟨⟨b⟩⟩], .agg [.int .i64 (.ofNat i), .int .i64 (.ofNat j)]] => (match Nat.blt i a.length, Nat.blt j b.length with
      | true, true => some (.bool (!Nat.beq (a.getD i 0).toNat (b.getD j 0).toNat), h)
      | _, _ => none)
    | _ => none)
  | false => (match Nat.beq f 95 with
    | true => (match args with
      | [.agg [.int .i64 i, .int .i64 j], .agg [.int .i64 k, .int .i64 l]] => some (.bool (match ilt i k with | true => ilt j l | false => false), h)
      | _ => none)
    | false => k f args h)
theorem kDf_ok {k : Memo} (hk : MemoOk Try.prog k) : MemoOk Try.prog (kDf k) := by
  intro f args h v h' he
  unfold kDf at he
  split at he
  · rename_i hf
    have hf' := Nat.eq_of_beq_eq_true hf
    subst hf'
    split at he
    · rename_i a b i j
      split at he
      · rename_i h1 h2
        cases he
        have h1' : i < a.length := by simpa [Nat.blt_eq] using h1
        have h2' : j < b.length := by simpa [Nat.blt_eq] using h2
        have e : (!Nat.beq (a.getD i 0).toNat (b.getD j 0).toNat) = decide (byteAt a i ≠ byteAt b j) := by
          unfold byteAt
          rw [Bool.eq_iff_iff, Bool.not_eq_true', decide_eq_true_eq, ← Bool.not_eq_true, Nat.beq_eq]
          omega
        rw [e]
        exact differs_ok h a b i j h1' h2'
      · cases he
    · cases he
  · split at he
    · rename_i hf
      have hf' := Nat.eq_of_beq_eq_true hf
      subst hf'
      split at he
      · rename_i i j k l
        cases he
        have e : (match ilt i k with | true => ilt j l | false => false) = decide (i < k ∧ j < l) := by
          rw [ilt_eq, ilt_eq]
          by_cases h1 : i < k
          · rw [decide_eq_true h1]
            by_cases h2 : j < l
            · rw [decide_eq_true (show i < k ∧ j < l from ⟨h1, h2⟩)]; exact decide_eq_true h2
            · rw [decide_eq_false (show ¬ (i < k ∧ j < l) from fun h => h2 h.2)]; exact decide_eq_false h2
          · rw [decide_eq_false h1, decide_eq_false (show ¬ (i < k ∧ j < l) from fun h => h1 h.1)]
        have := isBefore_ok h i j k l
        rw [← e] at this
        exact this
      · cases he
    · exact hk _ _ _ _ _ he
end Go.Proofs.Q

namespace Go.Proofs.Q
open Go.As
set_option maxRecDepth 20000
set_option linter.unusedVariables false
set_option linter.unusedSimpArgs false
def eng : V := .str ⟨⟨[101,110,103,114,97,118,101]⟩⟩
def grv : V := .str ⟨⟨[103,114,97,118,101,110]⟩⟩
def mV : V := .tup [.agg [.sl 0 0 2 2 false, .sl 1 0 8 8 true], .int .i64 (0)]
def mB : List NB := [([.int .i64 (0), .int .i64 (1)], some (1, 2)), ([.str ⟨⟨[]⟩⟩, .str ⟨⟨[]⟩⟩, .str ⟨⟨[]⟩⟩, .str ⟨⟨[]⟩⟩, .str ⟨⟨[]⟩⟩, .str ⟨⟨[]⟩⟩, .str ⟨⟨[]⟩⟩, .str ⟨⟨[110]⟩⟩], none)]
def cV : V := .tup [.sl 0 0 5 5 true, .int .i64 (0)]
def cB : List NB := [([.int .i64 (2), .int .i64 (0), .int .i64 (3), .int .i64 (1), .int .i64 (4), .int .i64 (2), .int .i64 (5), .int .i64 (3), .int .i64 (6), .int .i64 (4)], none)]
def lV : V := .tup [.sl 0 0 7 7 false, .int .i64 (0)]
def lB : List NB := [([.int .i64 (1), .int .i64 (2), .int .i64 (1), .int .i64 (2), .int .i64 (3), .int .i64 (4), .int .i64 (5)], some (1, 7))]
theorem rM (h : H) : CallOk Try.prog 33 [eng, grv] h (renV (fun i => h.n + i) mV) (addBs h (mB.map NB.blk)) := CallOk.anywhere mixed (kDf_ok kGr_ok) 3000 (f := 33) (args := [eng, grv]) [472, 467] mV mB rfl (by kernel_rfl) h
theorem rC (h : H) : CallOk Try.prog 38 [eng, grv] h (renV (fun i => h.n + i) cV) (addBs h (cB.map NB.blk)) := CallOk.anywhere mixed (kDf_ok kGr_ok) 3000 (f := 38) (args := [eng, grv]) [464] cV cB rfl (by kernel_rfl) h
theorem rL (h : H) : CallOk Try.prog 39 [eng, grv] h (renV (fun i => h.n + i) lV) (addBs h (lB.map NB.blk)) := CallOk.anywhere mixed (kDf_ok kGr_ok) 3000 (f := 39) (args := [eng, grv]) [120] lV lB rfl (by kernel_rfl) h
noncomputable def kWk : Memo := everN 33 [eng, grv] mV mB (everN 38 [eng, grv] cV cB (everN 39 [eng, grv] lV lB (kDf kGr)))
theorem kWk_ok : MemoOk Try.prog kWk := .everN (.everN (.everN (kDf_ok kGr_ok) rL) rC) rM
end Go.Proofs.Q

namespace Go.Proofs.Q
open Go.As
set_option maxRecDepth 20000
set_option linter.unusedVariables false
set_option linter.unusedSimpArgs false
theorem wwhole : CallOk Try.prog 19 [] H.empty (.bool .true) H.empty := .of_chk mixed kWk_ok 3000 (by kernel_rfl)
theorem works_any (h : H) : CallOk Try.prog 19 [] h (.bool true) h := wwhole.everywhere rfl h
end Go.Proofs.Q
