/- What the functions answer that the laws call, one after another, part 3. -/
import Derived.Test.YtnalgbkanchcoaaOwn2

set_option linter.unusedVariables false
namespace Go.Proofs.N
open Go.As
set_option maxRecDepth 20000
set_option linter.unusedVariables false
set_option linter.unusedSimpArgs false

def cnt (L : List Int) : Int := ((L.filter fun x => decide (x ≠ -1)).length : Int)

theorem noneSet_ok (h : H) : CallOk Try.prog 52 [] h (.agg (iVs [-1, -1, -1, -1, -1, -1, -1, -1, -1, -1])) h := by
  refine CallOk.run0 Try.func52 rfl rfl rfl rfl rfl (WpR.of_vc ?_)
  (conv => whnf); (repeat' (first | ((with_reducible refine ifb_mk (fun hc => ?_) (fun hc => ?_)) <;> ((try simp only [decide_eq_true_eq, decide_eq_false_iff_not, Bool.not_eq_true', Bool.not_eq_false', Int.not_lt, Int.not_le, ne_eq, Decidable.not_not, beq_iff_eq, List.cons.injEq, and_true] at hc); (first | (exfalso; omega) | conv => whnf))) | ((with_reducible refine And.intro True.intro ?_); conv => whnf) | ((with_reducible refine WpR.loopU 12 ?_); conv => whnf) | ((with_reducible refine And.intro ?hh ?_); (case hh => (unfold InR; (try dsimp only); omega)); conv => whnf) | ((with_reducible refine And.intro ?hh ?_); (case hh => ((try dsimp only); omega)); conv => whnf) | ((with_reducible refine And.intro ?hh ?_); (case hh => ((conv => whnf); (repeat' (first | exact True.intro | rfl | refine And.intro ?_ ?_)); done)); conv => whnf) | fail))
  all_goals (refine ⟨[], ?_, rfl, rfl, trivial, (by (repeat' (first | exact True.intro | rfl | refine And.intro ?_ ?_)))⟩; first | rfl | (simp only [renV, renL]; first | done | rfl | (congr 1; grind []) | grind []))

theorem partI {l : List Int} {k : Nat} {n : Int} {x : Int} (hn : n = k) (h : l[k]? = some x) : part? Try.prog 3 (iVs l) (n.toNat * 1) = some (.int .i64 x) := by
  subst hn
  have e : isAgg? Try.prog 3 = some false := by kernel_rfl
  have e2 : sizeOf? Try.prog 3 = some 1 := by kernel_rfl
  unfold part?
  rw [e, e2]
  unfold iVs
  simp [h]

theorem size_ok (h : H) (g0 g1 g2 g3 g4 g5 g6 g7 g8 g9 : Int) : CallOk Try.prog 54 [.agg (iVs [g0, g1, g2, g3, g4, g5, g6, g7, g8, g9])] h (.int .i64 (cnt [g0, g1, g2, g3, g4, g5, g6, g7, g8, g9])) h := by
  obtain ⟨G, hG⟩ : ∃ G, G = [g0, g1, g2, g3, g4, g5, g6, g7, g8, g9] := ⟨_, rfl⟩
  have hl : G.length = 10 := by rw [hG]; rfl
  refine CallOk.run0 Try.func54 rfl rfl rfl rfl rfl (WpR.of_vc ?_)
  (conv => whnf); (repeat' (first | ((with_reducible refine ifb_mk (fun hc => ?_) (fun hc => ?_)) <;> ((try simp only [decide_eq_true_eq, decide_eq_false_iff_not, Bool.not_eq_true', Bool.not_eq_false', Int.not_lt, Int.not_le, ne_eq, Decidable.not_not, beq_iff_eq, List.cons.injEq, and_true] at hc); (first | (exfalso; omega) | conv => whnf))) | ((with_reducible refine And.intro True.intro ?_); conv => whnf) | ((with_reducible refine And.intro ?hh ?_); (case hh => (unfold InR; (try dsimp only); omega)); conv => whnf) | ((with_reducible refine And.intro ?hh ?_); (case hh => ((try dsimp only); omega)); conv => whnf) | ((with_reducible refine And.intro ?hh ?_); (case hh => ((conv => whnf); (repeat' (first | exact True.intro | rfl | refine And.intro ?_ ?_)); done)); conv => whnf) | fail))
  refine WpR.loopD (ι := Nat × Nat) [] [6] [] [] 1 (fun p => [(7, .int .i64 p.1), (3, .int .i64 p.2)]) (fun _ => []) (fun p => 10 - p.1) (fun p => p.1 ≤ 10 ∧ p.2 ≤ p.1 ∧ cnt G = p.2 + cnt (G.drop p.1)) ?_ ((0, 0)) (⟨Nat.zero_le _, Nat.zero_le _, by simp⟩) [] ⟨rfl, rfl, (by (repeat' (first | exact True.intro | rfl | refine And.intro ?_ ?_))), (by (repeat' (first | exact True.intro | rfl | refine And.intro ?_ ?_))), (by (repeat' (first | exact True.intro | rfl | refine And.intro ?_ ?_))), (by (repeat' (first | exact True.intro | exact Or.inl rfl | refine And.intro ?_ ?_ | refine Or.inr ⟨_, rfl, ?_⟩ | exact SubQ.same (n := 1000) (Y := []) (fun _ _ _ => rfl) (by first | exact True.intro | exact ltB_all rfl | exact ltB_ofLb (by first | exact bare0_ints | assumption | exact bVs_bare | exact iVs_bare | exact mVs_bare | (intro v hv; (repeat (rcases List.mem_cons.1 hv with rfl | hv; exact rfl)); cases hv)) | exact ltB_loop rfl rfl | exact hMap _ | exact hMap2 _ | exact grB_lt (by first | exact bare0_ints | assumption | exact bVs_bare | exact iVs_bare | exact mVs_bare | (intro v hv; (repeat (rcases List.mem_cons.1 hv with rfl | hv; exact rfl)); cases hv)) _ | exact ltB_encL | exact ltB_map0 | assumption) (avB_nil _) rfl | exact SubQ.ofL (by first | rfl | simp) (by first | exact bare0_ints | assumption | exact bVs_bare | exact iVs_bare | exact mVs_bare | (intro v hv; (repeat (rcases List.mem_cons.1 hv with rfl | hv; exact rfl)); cases hv)) (by first | exact Or.inl rfl | exact Or.inr rfl) | exact SubQ.fin (by (conv => whnf); (repeat' (first | exact True.intro | rfl | refine And.intro ?_ ?_)); done) (fun h => h) (by first | exact Or.inl rfl | exact Or.inr rfl)))), rfl, rfl⟩ rfl rfl rfl (fun _ => rfl) (by (repeat' (first | exact True.intro | refine And.intro ?_ ?_ | exact avV_nil _ | rfl))) (by (repeat' (first | exact True.intro | (with_reducible exact avB_nil _) | ((with_reducible refine avB_all ?_); rfl) | ((with_reducible refine avB_ofLb ?_); exact (by first | exact bare0_ints | assumption | exact bVs_bare | exact iVs_bare | exact mVs_bare | (intro v hv; (repeat (rcases List.mem_cons.1 hv with rfl | hv; exact rfl)); cases hv))) | ((with_reducible refine ltB_all ?_); rfl) | ((with_reducible refine ltB_ofLb ?_); exact (by first | exact bare0_ints | assumption | exact bVs_bare | exact iVs_bare | exact mVs_bare | (intro v hv; (repeat (rcases List.mem_cons.1 hv with rfl | hv; exact rfl)); cases hv))) | ((with_reducible refine ltB_loop ?_ ?_) <;> rfl) | (with_reducible exact hMap _) | (with_reducible exact hMap2 _) | (with_reducible exact ltB_encL) | (with_reducible exact ltB_map0) | ((with_reducible refine grB_lt ?_ _); exact (by first | exact bare0_ints | assumption | exact bVs_bare | exact iVs_bare | exact mVs_bare | (intro v hv; (repeat (rcases List.mem_cons.1 hv with rfl | hv; exact rfl)); cases hv))) | (with_reducible assumption) | refine And.intro ?_ ?_ | exact (by first | exact True.intro | exact ltB_all rfl | exact ltB_ofLb (by first | exact bare0_ints | assumption | exact bVs_bare | exact iVs_bare | exact mVs_bare | (intro v hv; (repeat (rcases List.mem_cons.1 hv with rfl | hv; exact rfl)); cases hv)) | exact ltB_loop rfl rfl | exact hMap _ | exact hMap2 _ | exact grB_lt (by first | exact bare0_ints | assumption | exact bVs_bare | exact iVs_bare | exact mVs_bare | (intro v hv; (repeat (rcases List.mem_cons.1 hv with rfl | hv; exact rfl)); cases hv)) _ | exact ltB_encL | exact ltB_map0 | assumption)))) (fun _ _ => (by (repeat' (first | exact True.intro | rfl | refine And.intro ?_ ?_ | exact (by decide) | exact (by first | exact True.intro | exact hMap _ | exact hMap2 _ | exact grB_lt (by first | exact bare0_ints | assumption | exact bVs_bare | exact iVs_bare | exact mVs_bare | (intro v hv; (repeat (rcases List.mem_cons.1 hv with rfl | hv; exact rfl)); cases hv)) _ | exact ltB_all rfl | exact ltB_ofLb (by first | exact bare0_ints | assumption | exact bVs_bare | exact iVs_bare | exact mVs_bare | (intro v hv; (repeat (rcases List.mem_cons.1 hv with rfl | hv; exact rfl)); cases hv)) | exact ltB_loop rfl rfl | exact ltB_encL | exact ltB_map0 | assumption))))) (fun _ _ => (by (repeat' (first | exact True.intro | rfl | refine And.intro ?_ ?_ | exact (by decide) | exact (by first | exact True.intro | exact hMap _ | exact hMap2 _ | exact grB_lt (by first | exact bare0_ints | assumption | exact bVs_bare | exact iVs_bare | exact mVs_bare | (intro v hv; (repeat (rcases List.mem_cons.1 hv with rfl | hv; exact rfl)); cases hv)) _ | exact ltB_all rfl | exact ltB_ofLb (by first | exact bare0_ints | assumption | exact bVs_bare | exact iVs_bare | exact mVs_bare | (intro v hv; (repeat (rcases List.mem_cons.1 hv with rfl | hv; exact rfl)); cases hv)) | exact ltB_loop rfl rfl | exact ltB_encL | exact ltB_map0 | assumption))))) (fun _ _ => (by (repeat' (first | exact True.intro | rfl | refine And.intro ?_ ?_)))) rfl
  rintro ⟨i, m⟩ ⟨j1, j2, j3⟩
  dsimp only at j1 j2 j3
  refine WpR.of_vc ?_
  by_cases hi : i < 10
  · obtain ⟨x, hx⟩ : ∃ x, G[i]? = some x := ⟨_, List.getElem?_eq_getElem (by omega)⟩
    have hd : cnt (G.drop i) = (if x ≠ -1 then 1 else 0) + cnt (G.drop (i + 1)) := by
      rw [drop_at hx]
      unfold cnt
      rw [List.filter_cons]
      by_cases h1 : x = -1
      · simp [h1]
      · simp [h1]; omega
    have hp := partI (n := (i : Int)) rfl hx
    rw [hG] at hp
    rw [hd] at j3
    (conv => whnf); (repeat' (first | ((with_reducible refine ifb_mk (fun hc => ?_) (fun hc => ?_)) <;> ((try simp only [decide_eq_true_eq, decide_eq_false_iff_not, Bool.not_eq_true', Bool.not_eq_false', Int.not_lt, Int.not_le, ne_eq, Decidable.not_not, beq_iff_eq, List.cons.injEq, and_true] at hc); (first | (exfalso; omega) | conv => whnf))) | ((with_reducible refine And.intro True.intro ?_); conv => whnf) | ((with_reducible refine grd_part ?_); refine som_mk (a := ?_) ?hh ?_; (case hh => exact hp); conv => whnf) | ((with_reducible refine And.intro ?hh ?_); (case hh => (unfold InR; (try dsimp only); omega)); conv => whnf) | ((with_reducible refine And.intro ?hh ?_); (case hh => ((try dsimp only); omega)); conv => whnf) | ((with_reducible refine And.intro ?hh ?_); (case hh => ((conv => whnf); (repeat' (first | exact True.intro | rfl | refine And.intro ?_ ?_)); done)); conv => whnf) | fail))
    · rw [if_pos (by omega)] at j3
      exact ⟨(i + 1, m + 1), [], by dsimp only; omega, ⟨by dsimp only; omega, by dsimp only; omega, by dsimp only; omega⟩, ⟨rfl, rfl, (by (repeat' (first | exact True.intro | rfl | refine And.intro ?_ ?_))), (by (repeat' (first | exact True.intro | rfl | refine And.intro ?_ ?_))), (by (repeat' (first | exact True.intro | rfl | refine And.intro ?_ ?_))), (by (repeat' (first | exact True.intro | exact Or.inl rfl | refine And.intro ?_ ?_ | refine Or.inr ⟨_, rfl, ?_⟩ | exact SubQ.same (n := 1000) (Y := []) (fun _ _ _ => rfl) (by first | exact True.intro | exact ltB_all rfl | exact ltB_ofLb (by first | exact bare0_ints | assumption | exact bVs_bare | exact iVs_bare | exact mVs_bare | (intro v hv; (repeat (rcases List.mem_cons.1 hv with rfl | hv; exact rfl)); cases hv)) | exact ltB_loop rfl rfl | exact hMap _ | exact hMap2 _ | exact grB_lt (by first | exact bare0_ints | assumption | exact bVs_bare | exact iVs_bare | exact mVs_bare | (intro v hv; (repeat (rcases List.mem_cons.1 hv with rfl | hv; exact rfl)); cases hv)) _ | exact ltB_encL | exact ltB_map0 | assumption) (avB_nil _) rfl | exact SubQ.ofL (by first | rfl | simp) (by first | exact bare0_ints | assumption | exact bVs_bare | exact iVs_bare | exact mVs_bare | (intro v hv; (repeat (rcases List.mem_cons.1 hv with rfl | hv; exact rfl)); cases hv)) (by first | exact Or.inl rfl | exact Or.inr rfl) | exact SubQ.fin (by (conv => whnf); (repeat' (first | exact True.intro | rfl | refine And.intro ?_ ?_)); done) (fun h => h) (by first | exact Or.inl rfl | exact Or.inr rfl)))), rfl, rfl⟩⟩
    · rw [if_neg (by omega)] at j3
      exact ⟨(i + 1, m), [], by dsimp only; omega, ⟨by dsimp only; omega, by dsimp only; omega, by dsimp only; omega⟩, ⟨rfl, rfl, (by (repeat' (first | exact True.intro | rfl | refine And.intro ?_ ?_))), (by (repeat' (first | exact True.intro | rfl | refine And.intro ?_ ?_))), (by (repeat' (first | exact True.intro | rfl | refine And.intro ?_ ?_))), (by (repeat' (first | exact True.intro | exact Or.inl rfl | refine And.intro ?_ ?_ | refine Or.inr ⟨_, rfl, ?_⟩ | exact SubQ.same (n := 1000) (Y := []) (fun _ _ _ => rfl) (by first | exact True.intro | exact ltB_all rfl | exact ltB_ofLb (by first | exact bare0_ints | assumption | exact bVs_bare | exact iVs_bare | exact mVs_bare | (intro v hv; (repeat (rcases List.mem_cons.1 hv with rfl | hv; exact rfl)); cases hv)) | exact ltB_loop rfl rfl | exact hMap _ | exact hMap2 _ | exact grB_lt (by first | exact bare0_ints | assumption | exact bVs_bare | exact iVs_bare | exact mVs_bare | (intro v hv; (repeat (rcases List.mem_cons.1 hv with rfl | hv; exact rfl)); cases hv)) _ | exact ltB_encL | exact ltB_map0 | assumption) (avB_nil _) rfl | exact SubQ.ofL (by first | rfl | simp) (by first | exact bare0_ints | assumption | exact bVs_bare | exact iVs_bare | exact mVs_bare | (intro v hv; (repeat (rcases List.mem_cons.1 hv with rfl | hv; exact rfl)); cases hv)) (by first | exact Or.inl rfl | exact Or.inr rfl) | exact SubQ.fin (by (conv => whnf); (repeat' (first | exact True.intro | rfl | refine And.intro ?_ ?_)); done) (fun h => h) (by first | exact Or.inl rfl | exact Or.inr rfl)))), rfl, rfl⟩⟩
  · have e : i = 10 := by omega
    subst e
    rw [List.drop_eq_nil_of_le (by omega)] at j3
    have e2 : cnt [g0, g1, g2, g3, g4, g5, g6, g7, g8, g9] = m := by rw [← hG, j3]; unfold cnt; simp
    (conv => whnf); (repeat' (first | ((with_reducible refine ifb_mk (fun hc => ?_) (fun hc => ?_)) <;> ((try simp only [decide_eq_true_eq, decide_eq_false_iff_not, Bool.not_eq_true', Bool.not_eq_false', Int.not_lt, Int.not_le, ne_eq, Decidable.not_not, beq_iff_eq, List.cons.injEq, and_true] at hc); (first | (exfalso; omega) | conv => whnf))) | ((with_reducible refine And.intro True.intro ?_); conv => whnf) | ((with_reducible refine And.intro ?hh ?_); (case hh => (unfold InR; (try dsimp only); omega)); conv => whnf) | ((with_reducible refine And.intro ?hh ?_); (case hh => ((try dsimp only); omega)); conv => whnf) | ((with_reducible refine And.intro ?hh ?_); (case hh => ((conv => whnf); (repeat' (first | exact True.intro | rfl | refine And.intro ?_ ?_)); done)); conv => whnf) | fail))
    (refine ⟨[], ?_, rfl, rfl, trivial, (by (repeat' (first | exact True.intro | rfl | refine And.intro ?_ ?_)))⟩; simp only [renV, renL]; rw [e2])
end Go.Proofs.N

namespace Go.Proofs.N
open Go.As
set_option maxRecDepth 20000
set_option linter.unusedVariables false
set_option linter.unusedSimpArgs false

def csA (n : Int) (M : List P2) (C L : List Int) : Int × Int :=
  if shErr n M C ≠ 0 then (0, shErr n M C) else if (L.length : Int) ≠ n then (0, 15) else if wi (-1) 1 L = false then (0, 3) else if rightB L M C = false then (0, 18) else (cnt L, 0)

theorem uses_ext {L R : List Int} {p : Int} (h : (p.tdiv 2).toNat < L.length) : usesB (L ++ R) p = usesB L p := by unfold usesB; rw [List.getElem?_append_left h]
theorem right_ext {n : Int} {M : List P2} {C : List Int} (hS : OkN n M C) {L : List Int} (hL : (L.length : Int) = n) (R : List Int) : rightB (L ++ R) M C = rightB L M C := by
  have hn := hS.nn
  have hu : ∀ p, 0 ≤ p ∧ p ≤ 2 * n - 1 → usesB (L ++ R) p = usesB L p := fun p hp => by
    obtain ⟨k, h1, h2, _⟩ := place_k hn hp
    exact uses_ext (by rw [h1]; omega)
  have e1 : (C.all fun p => !usesB (L ++ R) p) = C.all fun p => !usesB L p := by
    rw [Bool.eq_iff_iff, List.all_eq_true, List.all_eq_true]
    exact ⟨fun h x hx => by rw [← hu x (okC hS hx)]; exact h x hx, fun h x hx => by rw [hu x (okC hS hx)]; exact h x hx⟩
  have e2 : (M.all fun e => !(usesB (L ++ R) e.1 && usesB (L ++ R) e.2)) = M.all fun e => !(usesB L e.1 && usesB L e.2) := by
    rw [Bool.eq_iff_iff, List.all_eq_true, List.all_eq_true]
    exact ⟨fun h x hx => by rw [← hu x.1 (okP hS hx).1, ← hu x.2 (okP hS hx).2]; exact h x hx, fun h x hx => by rw [hu x.1 (okP hS hx).1, hu x.2 (okP hS hx).2]; exact h x hx⟩
  unfold rightB
  rw [e1, e2]
theorem cnt_ext (L : List Int) (k : Nat) : cnt (L ++ List.replicate k (-1)) = cnt L := by
  unfold cnt
  rw [List.filter_append]
  have : (List.replicate k (-1 : Int)).filter (fun x => decide (x ≠ -1)) = [] := by
    rw [List.filter_eq_nil_iff]
    intro a ha
    rw [List.eq_of_mem_replicate ha]
    decide
  rw [this, List.append_nil]
theorem hB_of {L : List Int} (hw : wi (-1) 1 L = true) (k : Nat) : ∀ x ∈ L ++ List.replicate k (-1), -1 ≤ x ∧ x ≤ 1 := by
  intro x hx
  rcases List.mem_append.1 hx with h | h
  · exact of_decide_eq_true (List.all_eq_true.1 hw x h)
  · rw [List.eq_of_mem_replicate h]; decide

set_option maxHeartbeats 4000000 in
theorem checkSetting_bad (h : H) (n : Int) (M : List P2) (C L : List Int) (mv cv lv : V) (hM : M.length ≤ 9223372036854775807) (hC : C.length ≤ 9223372036854775807) (hL : L.length ≤ 9223372036854775807) (h1 : SlC h (mVs M) M.length mv) (h2 : SlC h (iVs C) C.length cv) (h3 : SlC h (iVs L) L.length lv) (hb : shErr n M C ≠ 0 ∨ (L.length : Int) ≠ n ∨ wi (-1) 1 L = false) :
    CallOk Try.prog 17 [sheetV n mv cv, lv] h (.tup [.int .i64 (csA n M C L).1, .int .i64 (csA n M C L).2]) h := by
  obtain ⟨o1, s1, q1, c1, w1⟩ := h1.view 0
  obtain ⟨o2, s2, q2, c2, w2⟩ := h2.view 1
  obtain ⟨o3, s3, q3, c3, w3⟩ := h3.view 2
  refine CallOk.run Try.func17 rfl rfl (argsC := [sheetV n s1 s2, s3]) (Nat.le_of_ble_eq_true rfl) [o1, o2, o3] (.cons (CaL.agg (.cons (.bare rfl) (.cons (c1 _ rfl) (.cons (c2 _ rfl) .nil)))) (.cons (c3 _ rfl) .nil)) (viewMc3 mVs_bare w1 iVs_bare w2 iVs_bare w3) rfl (WpR.of_vc ?_)
  have hB1 := @mVs_bare M
  have hB2 := @iVs_bare C
  have hB3 := @iVs_bare L
  have k1 := fun h' m' c' h1' h2' => checkSheet_ok h' n M C m' c' hM hC h1' h2'
  have k2 := fun h' sv' hs' => within_ok h' (-1) 1 L sv' hL hs'
  by_cases e0 : shErr n M C = 0
  · rw [e0] at k1
    by_cases e1 : (L.length : Int) = n
    · have e2 : wi (-1) 1 L = false := by rcases hb with h | h | h; exact absurd e0 h; exact absurd e1 h; exact h
      have ec : csA n M C L = (0, 3) := by unfold csA; rw [if_neg (by omega), if_neg (by omega), if_pos e2]
      rw [e2] at k2
      rw [ec]
      cases q1 <;> cases q2 <;> cases q3
      all_goals
        (conv => whnf); (repeat' (first | ((with_reducible refine ifb_mk (fun hc => ?_) (fun hc => ?_)) <;> ((try simp only [decide_eq_true_eq, decide_eq_false_iff_not, Bool.not_eq_true', Bool.not_eq_false', Int.not_lt, Int.not_le, ne_eq, Decidable.not_not, beq_iff_eq, List.cons.injEq, and_true] at hc); (first | (exfalso; omega) | conv => whnf))) | ((with_reducible refine And.intro True.intro ?_); conv => whnf) | ((with_reducible refine CallX.all ?_); refine CallW.of_ok (k1 _ _ _ (by first | exact SlC.own rfl | exact mNil (by omega)) (by first | exact SlC.own rfl | exact iNil (by omega))) ?_; conv => whnf) | ((with_reducible refine CallX.all ?_); refine CallW.of_ok (k2 _ _ (by first | exact SlC.own rfl | exact iNil (by omega))) ?_; conv => whnf) | ((with_reducible refine And.intro ?hh ?_); (case hh => (unfold InR; (try dsimp only); omega)); conv => whnf) | ((with_reducible refine And.intro ?hh ?_); (case hh => ((try dsimp only); omega)); conv => whnf) | ((with_reducible refine And.intro ?hh ?_); (case hh => ((conv => whnf); (repeat' (first | exact True.intro | rfl | refine And.intro ?_ ?_)); done)); conv => whnf) | fail))
        all_goals (first | (exfalso; omega) | (refine ⟨[], ?_, rfl, rfl, trivial, (by (repeat' (first | exact True.intro | rfl | refine And.intro ?_ ?_)))⟩; simp only [renV, renL]; (first | done | rfl | simp | grind)))
    · have ec : csA n M C L = (0, 15) := by unfold csA; rw [if_neg (by omega), if_pos e1]
      rw [ec]
      cases q1 <;> cases q2 <;> cases q3
      all_goals
        (conv => whnf); (repeat' (first | ((with_reducible refine ifb_mk (fun hc => ?_) (fun hc => ?_)) <;> ((try simp only [decide_eq_true_eq, decide_eq_false_iff_not, Bool.not_eq_true', Bool.not_eq_false', Int.not_lt, Int.not_le, ne_eq, Decidable.not_not, beq_iff_eq, List.cons.injEq, and_true] at hc); (first | (exfalso; omega) | conv => whnf))) | ((with_reducible refine And.intro True.intro ?_); conv => whnf) | ((with_reducible refine CallX.all ?_); refine CallW.of_ok (k1 _ _ _ (by first | exact SlC.own rfl | exact mNil (by omega)) (by first | exact SlC.own rfl | exact iNil (by omega))) ?_; conv => whnf) | ((with_reducible refine And.intro ?hh ?_); (case hh => (unfold InR; (try dsimp only); omega)); conv => whnf) | ((with_reducible refine And.intro ?hh ?_); (case hh => ((try dsimp only); omega)); conv => whnf) | ((with_reducible refine And.intro ?hh ?_); (case hh => ((conv => whnf); (repeat' (first | exact True.intro | rfl | refine And.intro ?_ ?_)); done)); conv => whnf) | fail))
        all_goals (first | (exfalso; omega) | (refine ⟨[], ?_, rfl, rfl, trivial, (by (repeat' (first | exact True.intro | rfl | refine And.intro ?_ ?_)))⟩; simp only [renV, renL]; (first | done | rfl | simp | grind)))
  · have ec : csA n M C L = (0, shErr n M C) := by unfold csA; rw [if_pos e0]
    rw [ec]
    generalize shErr n M C = er at *
    cases q1 <;> cases q2 <;> cases q3
    all_goals
      (conv => whnf); (repeat' (first | ((with_reducible refine ifb_mk (fun hc => ?_) (fun hc => ?_)) <;> ((try simp only [decide_eq_true_eq, decide_eq_false_iff_not, Bool.not_eq_true', Bool.not_eq_false', Int.not_lt, Int.not_le, ne_eq, Decidable.not_not, beq_iff_eq, List.cons.injEq, and_true] at hc); (first | (exfalso; omega) | conv => whnf))) | ((with_reducible refine And.intro True.intro ?_); conv => whnf) | ((with_reducible refine CallX.all ?_); refine CallW.of_ok (k1 _ _ _ (by first | exact SlC.own rfl | exact mNil (by omega)) (by first | exact SlC.own rfl | exact iNil (by omega))) ?_; conv => whnf) | ((with_reducible refine And.intro ?hh ?_); (case hh => (unfold InR; (try dsimp only); omega)); conv => whnf) | ((with_reducible refine And.intro ?hh ?_); (case hh => ((try dsimp only); omega)); conv => whnf) | ((with_reducible refine And.intro ?hh ?_); (case hh => ((conv => whnf); (repeat' (first | exact True.intro | rfl | refine And.intro ?_ ?_)); done)); conv => whnf) | fail))
      all_goals (first | (exfalso; omega) | (refine ⟨[], ?_, rfl, rfl, trivial, (by (repeat' (first | exact True.intro | rfl | refine And.intro ?_ ?_)))⟩; simp only [renV, renL]; (first | done | rfl | simp | grind)))

set_option maxHeartbeats 4000000 in
theorem checkSetting_1 (h : H) (M : List P2) (C : List Int) (x0 : Int) (mv cv lv : V) (hM : M.length ≤ 9223372036854775807) (hC : C.length ≤ 9223372036854775807) (h1 : SlC h (mVs M) M.length mv) (h2 : SlC h (iVs C) C.length cv) (h3 : SlC h (iVs [x0]) 1 lv) (e0 : shErr 1 M C = 0) (e2 : wi (-1) 1 [x0] = true) :
    CallOk Try.prog 17 [sheetV 1 mv cv, lv] h (.tup [.int .i64 (csA 1 M C [x0]).1, .int .i64 (csA 1 M C [x0]).2]) h := by
  obtain ⟨o1, s1, q1, c1, w1⟩ := h1.view 0
  obtain ⟨o2, s2, q2, c2, w2⟩ := h2.view 1
  obtain ⟨o3, s3, q3, c3, w3⟩ := h3.view 2
  obtain ⟨cap3, ex3, rfl⟩ := Sv.pos q3 (by decide)
  refine CallOk.run Try.func17 rfl rfl (argsC := [sheetV 1 s1 s2, .sl 2 0 1 cap3 ex3]) (Nat.le_of_ble_eq_true rfl) [o1, o2, o3] (.cons (CaL.agg (.cons (.bare rfl) (.cons (c1 _ rfl) (.cons (c2 _ rfl) .nil)))) (.cons (c3 _ rfl) .nil)) (viewMc3 mVs_bare w1 iVs_bare w2 iVs_bare w3) rfl (WpR.of_vc ?_)
  have hS := shErr_ok e0
  have hB1 := @mVs_bare M
  have hB2 := @iVs_bare C
  have hB3 := @iVs_bare [x0]
  have k1 := fun h' m' c' h1' h2' => checkSheet_ok h' 1 M C m' c' hM hC h1' h2'
  rw [e0] at k1
  have k2 := fun h' sv' (hs' : SlC h' (iVs [x0]) 1 sv') => within_ok h' (-1) 1 [x0] sv' (by simp) hs'
  rw [e2] at k2
  have k3 := fun h' m' c' h1' h2' => isRight_ok h' x0 (-1) (-1) (-1) (-1) (-1) (-1) (-1) (-1) (-1) (hB_of e2 9) 1 M C hS m' c' h1' h2'
  have hR : rightB [x0, (-1), (-1), (-1), (-1), (-1), (-1), (-1), (-1), (-1)] M C = rightB [x0] M C := right_ext hS (L := [x0]) rfl (List.replicate 9 (-1))
  rw [hR] at k3
  have k4 := fun h' => size_ok h' x0 (-1) (-1) (-1) (-1) (-1) (-1) (-1) (-1) (-1)
  have hN : cnt [x0, (-1), (-1), (-1), (-1), (-1), (-1), (-1), (-1), (-1)] = cnt [x0] := cnt_ext [x0] 9
  rw [hN] at k4
  cases hr : rightB [x0] M C with
  | true =>
    have ec : csA 1 M C [x0] = (cnt [x0], 0) := by unfold csA; rw [if_neg (by omega), if_neg (fun hc => hc rfl), e2, if_neg (by decide), hr, if_neg (by decide)]
    rw [hr] at k3
    rw [ec]
    cases q1 <;> cases q2
    all_goals
      (conv => whnf); (repeat' (first | ((with_reducible refine ifb_mk (fun hc => ?_) (fun hc => ?_)) <;> ((try simp only [decide_eq_true_eq, decide_eq_false_iff_not, Bool.not_eq_true', Bool.not_eq_false', Int.not_lt, Int.not_le, ne_eq, Decidable.not_not, beq_iff_eq, List.cons.injEq, and_true] at hc); (first | (exfalso; omega) | conv => whnf))) | ((with_reducible refine And.intro True.intro ?_); conv => whnf) | ((with_reducible refine CallX.all ?_); refine CallW.of_ok (k1 _ _ _ (by first | exact SlC.own rfl | exact mNil (by omega)) (by first | exact SlC.own rfl | exact iNil (by omega))) ?_; conv => whnf) | ((with_reducible refine CallX.all ?_); refine CallW.of_ok (k2 _ _ (SlC.own rfl)) ?_; conv => whnf) | ((with_reducible refine CallX.all ?_); refine CallW.of_ok (noneSet_ok _) ?_; conv => whnf) | ((with_reducible refine CallX.all ?_); refine CallW.of_ok (k3 _ _ _ (by first | exact SlC.own rfl | exact mNil (by omega)) (by first | exact SlC.own rfl | exact iNil (by omega))) ?_; conv => whnf) | ((with_reducible refine CallX.all ?_); refine CallW.of_ok (k4 _) ?_; conv => whnf) | ((with_reducible refine And.intro ?hh ?_); (case hh => (unfold InR; (try dsimp only); omega)); conv => whnf) | ((with_reducible refine And.intro ?hh ?_); (case hh => ((try dsimp only); omega)); conv => whnf) | ((with_reducible refine And.intro ?hh ?_); (case hh => ((conv => whnf); (repeat' (first | exact True.intro | rfl | refine And.intro ?_ ?_)); done)); conv => whnf) | fail))
      all_goals (refine ⟨[], ?_, rfl, rfl, trivial, (by (repeat' (first | exact True.intro | rfl | refine And.intro ?_ ?_)))⟩; simp only [renV, renL]; (first | done | rfl | simp | grind))
  | false =>
    have ec : csA 1 M C [x0] = (0, 18) := by unfold csA; rw [if_neg (by omega), if_neg (fun hc => hc rfl), e2, if_neg (by decide), hr, if_pos rfl]
    rw [hr] at k3
    rw [ec]
    cases q1 <;> cases q2
    all_goals
      (conv => whnf); (repeat' (first | ((with_reducible refine ifb_mk (fun hc => ?_) (fun hc => ?_)) <;> ((try simp only [decide_eq_true_eq, decide_eq_false_iff_not, Bool.not_eq_true', Bool.not_eq_false', Int.not_lt, Int.not_le, ne_eq, Decidable.not_not, beq_iff_eq, List.cons.injEq, and_true] at hc); (first | (exfalso; omega) | conv => whnf))) | ((with_reducible refine And.intro True.intro ?_); conv => whnf) | ((with_reducible refine CallX.all ?_); refine CallW.of_ok (k1 _ _ _ (by first | exact SlC.own rfl | exact mNil (by omega)) (by first | exact SlC.own rfl | exact iNil (by omega))) ?_; conv => whnf) | ((with_reducible refine CallX.all ?_); refine CallW.of_ok (k2 _ _ (SlC.own rfl)) ?_; conv => whnf) | ((with_reducible refine CallX.all ?_); refine CallW.of_ok (noneSet_ok _) ?_; conv => whnf) | ((with_reducible refine CallX.all ?_); refine CallW.of_ok (k3 _ _ _ (by first | exact SlC.own rfl | exact mNil (by omega)) (by first | exact SlC.own rfl | exact iNil (by omega))) ?_; conv => whnf) | ((with_reducible refine And.intro ?hh ?_); (case hh => (unfold InR; (try dsimp only); omega)); conv => whnf) | ((with_reducible refine And.intro ?hh ?_); (case hh => ((try dsimp only); omega)); conv => whnf) | ((with_reducible refine And.intro ?hh ?_); (case hh => ((conv => whnf); (repeat' (first | exact True.intro | rfl | refine And.intro ?_ ?_)); done)); conv => whnf) | fail))
      all_goals (refine ⟨[], ?_, rfl, rfl, trivial, (by (repeat' (first | exact True.intro | rfl | refine And.intro ?_ ?_)))⟩; simp only [renV, renL]; (first | done | rfl | simp | grind))

set_option maxHeartbeats 4000000 in
theorem checkSetting_2 (h : H) (M : List P2) (C : List Int) (x0 x1 : Int) (mv cv lv : V) (hM : M.length ≤ 9223372036854775807) (hC : C.length ≤ 9223372036854775807) (h1 : SlC h (mVs M) M.length mv) (h2 : SlC h (iVs C) C.length cv) (h3 : SlC h (iVs [x0, x1]) 2 lv) (e0 : shErr 2 M C = 0) (e2 : wi (-1) 1 [x0, x1] = true) :
    CallOk Try.prog 17 [sheetV 2 mv cv, lv] h (.tup [.int .i64 (csA 2 M C [x0, x1]).1, .int .i64 (csA 2 M C [x0, x1]).2]) h := by
  obtain ⟨o1, s1, q1, c1, w1⟩ := h1.view 0
  obtain ⟨o2, s2, q2, c2, w2⟩ := h2.view 1
  obtain ⟨o3, s3, q3, c3, w3⟩ := h3.view 2
  obtain ⟨cap3, ex3, rfl⟩ := Sv.pos q3 (by decide)
  refine CallOk.run Try.func17 rfl rfl (argsC := [sheetV 2 s1 s2, .sl 2 0 2 cap3 ex3]) (Nat.le_of_ble_eq_true rfl) [o1, o2, o3] (.cons (CaL.agg (.cons (.bare rfl) (.cons (c1 _ rfl) (.cons (c2 _ rfl) .nil)))) (.cons (c3 _ rfl) .nil)) (viewMc3 mVs_bare w1 iVs_bare w2 iVs_bare w3) rfl (WpR.of_vc ?_)
  have hS := shErr_ok e0
  have hB1 := @mVs_bare M
  have hB2 := @iVs_bare C
  have hB3 := @iVs_bare [x0, x1]
  have k1 := fun h' m' c' h1' h2' => checkSheet_ok h' 2 M C m' c' hM hC h1' h2'
  rw [e0] at k1
  have k2 := fun h' sv' (hs' : SlC h' (iVs [x0, x1]) 2 sv') => within_ok h' (-1) 1 [x0, x1] sv' (by simp) hs'
  rw [e2] at k2
  have k3 := fun h' m' c' h1' h2' => isRight_ok h' x0 x1 (-1) (-1) (-1) (-1) (-1) (-1) (-1) (-1) (hB_of e2 8) 2 M C hS m' c' h1' h2'
  have hR : rightB [x0, x1, (-1), (-1), (-1), (-1), (-1), (-1), (-1), (-1)] M C = rightB [x0, x1] M C := right_ext hS (L := [x0, x1]) rfl (List.replicate 8 (-1))
  rw [hR] at k3
  have k4 := fun h' => size_ok h' x0 x1 (-1) (-1) (-1) (-1) (-1) (-1) (-1) (-1)
  have hN : cnt [x0, x1, (-1), (-1), (-1), (-1), (-1), (-1), (-1), (-1)] = cnt [x0, x1] := cnt_ext [x0, x1] 8
  rw [hN] at k4
  cases hr : rightB [x0, x1] M C with
  | true =>
    have ec : csA 2 M C [x0, x1] = (cnt [x0, x1], 0) := by unfold csA; rw [if_neg (by omega), if_neg (fun hc => hc rfl), e2, if_neg (by decide), hr, if_neg (by decide)]
    rw [hr] at k3
    rw [ec]
    cases q1 <;> cases q2
    all_goals
      (conv => whnf); (repeat' (first | ((with_reducible refine ifb_mk (fun hc => ?_) (fun hc => ?_)) <;> ((try simp only [decide_eq_true_eq, decide_eq_false_iff_not, Bool.not_eq_true', Bool.not_eq_false', Int.not_lt, Int.not_le, ne_eq, Decidable.not_not, beq_iff_eq, List.cons.injEq, and_true] at hc); (first | (exfalso; omega) | conv => whnf))) | ((with_reducible refine And.intro True.intro ?_); conv => whnf) | ((with_reducible refine CallX.all ?_); refine CallW.of_ok (k1 _ _ _ (by first | exact SlC.own rfl | exact mNil (by omega)) (by first | exact SlC.own rfl | exact iNil (by omega))) ?_; conv => whnf) | ((with_reducible refine CallX.all ?_); refine CallW.of_ok (k2 _ _ (SlC.own rfl)) ?_; conv => whnf) | ((with_reducible refine CallX.all ?_); refine CallW.of_ok (noneSet_ok _) ?_; conv => whnf) | ((with_reducible refine CallX.all ?_); refine CallW.of_ok (k3 _ _ _ (by first | exact SlC.own rfl | exact mNil (by omega)) (by first | exact SlC.own rfl | exact iNil (by omega))) ?_; conv => whnf) | ((with_reducible refine CallX.all ?_); refine CallW.of_ok (k4 _) ?_; conv => whnf) | ((with_reducible refine And.intro ?hh ?_); (case hh => (unfold InR; (try dsimp only); omega)); conv => whnf) | ((with_reducible refine And.intro ?hh ?_); (case hh => ((try dsimp only); omega)); conv => whnf) | ((with_reducible refine And.intro ?hh ?_); (case hh => ((conv => whnf); (repeat' (first | exact True.intro | rfl | refine And.intro ?_ ?_)); done)); conv => whnf) | fail))
      all_goals (refine ⟨[], ?_, rfl, rfl, trivial, (by (repeat' (first | exact True.intro | rfl | refine And.intro ?_ ?_)))⟩; simp only [renV, renL]; (first | done | rfl | simp | grind))
  | false =>
    have ec : csA 2 M C [x0, x1] = (0, 18) := by unfold csA; rw [if_neg (by omega), if_neg (fun hc => hc rfl), e2, if_neg (by decide), hr, if_pos rfl]
    rw [hr] at k3
    rw [ec]
    cases q1 <;> cases q2
    all_goals
      (conv => whnf); (repeat' (first | ((with_reducible refine ifb_mk (fun hc => ?_) (fun hc => ?_)) <;> ((try simp only [decide_eq_true_eq, decide_eq_false_iff_not, Bool.not_eq_true', Bool.not_eq_false', Int.not_lt, Int.not_le, ne_eq, Decidable.not_not, beq_iff_eq, List.cons.injEq, and_true] at hc); (first | (exfalso; omega) | conv => whnf))) | ((with_reducible refine And.intro True.intro ?_); conv => whnf) | ((with_reducible refine CallX.all ?_); refine CallW.of_ok (k1 _ _ _ (by first | exact SlC.own rfl | exact mNil (by omega)) (by first | exact SlC.own rfl | exact iNil (by omega))) ?_; conv => whnf) | ((with_reducible refine CallX.all ?_); refine CallW.of_ok (k2 _ _ (SlC.own rfl)) ?_; conv => whnf) | ((with_reducible refine CallX.all ?_); refine CallW.of_ok (noneSet_ok _) ?_; conv => whnf) | ((with_reducible refine CallX.all ?_); refine CallW.of_ok (k3 _ _ _ (by first | exact SlC.own rfl | exact mNil (by omega)) (by first | exact SlC.own rfl | exact iNil (by omega))) ?_; conv => whnf) | ((with_reducible refine And.intro ?hh ?_); (case hh => (unfold InR; (try dsimp only); omega)); conv => whnf) | ((with_reducible refine And.intro ?hh ?_); (case hh => ((try dsimp only); omega)); conv => whnf) | ((with_reducible refine And.intro ?hh ?_); (case hh => ((conv => whnf); (repeat' (first | exact True.intro | rfl | refine And.intro ?_ ?_)); done)); conv => whnf) | fail))
      all_goals (refine ⟨[], ?_, rfl, rfl, trivial, (by (repeat' (first | exact True.intro | rfl | refine And.intro ?_ ?_)))⟩; simp only [renV, renL]; (first | done | rfl | simp | grind))

set_option maxHeartbeats 4000000 in
theorem checkSetting_3 (h : H) (M : List P2) (C : List Int) (x0 x1 x2 : Int) (mv cv lv : V) (hM : M.length ≤ 9223372036854775807) (hC : C.length ≤ 9223372036854775807) (h1 : SlC h (mVs M) M.length mv) (h2 : SlC h (iVs C) C.length cv) (h3 : SlC h (iVs [x0, x1, x2]) 3 lv) (e0 : shErr 3 M C = 0) (e2 : wi (-1) 1 [x0, x1, x2] = true) :
    CallOk Try.prog 17 [sheetV 3 mv cv, lv] h (.tup [.int .i64 (csA 3 M C [x0, x1, x2]).1, .int .i64 (csA 3 M C [x0, x1, x2]).2]) h := by
  obtain ⟨o1, s1, q1, c1, w1⟩ := h1.view 0
  obtain ⟨o2, s2, q2, c2, w2⟩ := h2.view 1
  obtain ⟨o3, s3, q3, c3, w3⟩ := h3.view 2
  obtain ⟨cap3, ex3, rfl⟩ := Sv.pos q3 (by decide)
  refine CallOk.run Try.func17 rfl rfl (argsC := [sheetV 3 s1 s2, .sl 2 0 3 cap3 ex3]) (Nat.le_of_ble_eq_true rfl) [o1, o2, o3] (.cons (CaL.agg (.cons (.bare rfl) (.cons (c1 _ rfl) (.cons (c2 _ rfl) .nil)))) (.cons (c3 _ rfl) .nil)) (viewMc3 mVs_bare w1 iVs_bare w2 iVs_bare w3) rfl (WpR.of_vc ?_)
  have hS := shErr_ok e0
  have hB1 := @mVs_bare M
  have hB2 := @iVs_bare C
  have hB3 := @iVs_bare [x0, x1, x2]
  have k1 := fun h' m' c' h1' h2' => checkSheet_ok h' 3 M C m' c' hM hC h1' h2'
  rw [e0] at k1
  have k2 := fun h' sv' (hs' : SlC h' (iVs [x0, x1, x2]) 3 sv') => within_ok h' (-1) 1 [x0, x1, x2] sv' (by simp) hs'
  rw [e2] at k2
  have k3 := fun h' m' c' h1' h2' => isRight_ok h' x0 x1 x2 (-1) (-1) (-1) (-1) (-1) (-1) (-1) (hB_of e2 7) 3 M C hS m' c' h1' h2'
  have hR : rightB [x0, x1, x2, (-1), (-1), (-1), (-1), (-1), (-1), (-1)] M C = rightB [x0, x1, x2] M C := right_ext hS (L := [x0, x1, x2]) rfl (List.replicate 7 (-1))
  rw [hR] at k3
  have k4 := fun h' => size_ok h' x0 x1 x2 (-1) (-1) (-1) (-1) (-1) (-1) (-1)
  have hN : cnt [x0, x1, x2, (-1), (-1), (-1), (-1), (-1), (-1), (-1)] = cnt [x0, x1, x2] := cnt_ext [x0, x1, x2] 7
  rw [hN] at k4
  cases hr : rightB [x0, x1, x2] M C with
  | true =>
    have ec : csA 3 M C [x0, x1, x2] = (cnt [x0, x1, x2], 0) := by unfold csA; rw [if_neg (by omega), if_neg (fun hc => hc rfl), e2, if_neg (by decide), hr, if_neg (by decide)]
    rw [hr] at k3
    rw [ec]
    cases q1 <;> cases q2
    all_goals
      (conv => whnf); (repeat' (first | ((with_reducible refine ifb_mk (fun hc => ?_) (fun hc => ?_)) <;> ((try simp only [decide_eq_true_eq, decide_eq_false_iff_not, Bool.not_eq_true', Bool.not_eq_false', Int.not_lt, Int.not_le, ne_eq, Decidable.not_not, beq_iff_eq, List.cons.injEq, and_true] at hc); (first | (exfalso; omega) | conv => whnf))) | ((with_reducible refine And.intro True.intro ?_); conv => whnf) | ((with_reducible refine CallX.all ?_); refine CallW.of_ok (k1 _ _ _ (by first | exact SlC.own rfl | exact mNil (by omega)) (by first | exact SlC.own rfl | exact iNil (by omega))) ?_; conv => whnf) | ((with_reducible refine CallX.all ?_); refine CallW.of_ok (k2 _ _ (SlC.own rfl)) ?_; conv => whnf) | ((with_reducible refine CallX.all ?_); refine CallW.of_ok (noneSet_ok _) ?_; conv => whnf) | ((with_reducible refine CallX.all ?_); refine CallW.of_ok (k3 _ _ _ (by first | exact SlC.own rfl | exact mNil (by omega)) (by first | exact SlC.own rfl | exact iNil (by omega))) ?_; conv => whnf) | ((with_reducible refine CallX.all ?_); refine CallW.of_ok (k4 _) ?_; conv => whnf) | ((with_reducible refine And.intro ?hh ?_); (case hh => (unfold InR; (try dsimp only); omega)); conv => whnf) | ((with_reducible refine And.intro ?hh ?_); (case hh => ((try dsimp only); omega)); conv => whnf) | ((with_reducible refine And.intro ?hh ?_); (case hh => ((conv => whnf); (repeat' (first | exact True.intro | rfl | refine And.intro ?_ ?_)); done)); conv => whnf) | fail))
      all_goals (refine ⟨[], ?_, rfl, rfl, trivial, (by (repeat' (first | exact True.intro | rfl | refine And.intro ?_ ?_)))⟩; simp only [renV, renL]; (first | done | rfl | simp | grind))
  | false =>
    have ec : csA 3 M C [x0, x1, x2] = (0, 18) := by unfold csA; rw [if_neg (by omega), if_neg (fun hc => hc rfl), e2, if_neg (by decide), hr, if_pos rfl]
    rw [hr] at k3
    rw [ec]
    cases q1 <;> cases q2
    all_goals
      (conv => whnf); (repeat' (first | ((with_reducible refine ifb_mk (fun hc => ?_) (fun hc => ?_)) <;> ((try simp only [decide_eq_true_eq, decide_eq_false_iff_not, Bool.not_eq_true', Bool.not_eq_false', Int.not_lt, Int.not_le, ne_eq, Decidable.not_not, beq_iff_eq, List.cons.injEq, and_true] at hc); (first | (exfalso; omega) | conv => whnf))) | ((with_reducible refine And.intro True.intro ?_); conv => whnf) | ((with_reducible refine CallX.all ?_); refine CallW.of_ok (k1 _ _ _ (by first | exact SlC.own rfl | exact mNil (by omega)) (by first | exact SlC.own rfl | exact iNil (by omega))) ?_; conv => whnf) | ((with_reducible refine CallX.all ?_); refine CallW.of_ok (k2 _ _ (SlC.own rfl)) ?_; conv => whnf) | ((with_reducible refine CallX.all ?_); refine CallW.of_ok (noneSet_ok _) ?_; conv => whnf) | ((with_reducible refine CallX.all ?_); refine CallW.of_ok (k3 _ _ _ (by first | exact SlC.own rfl | exact mNil (by omega)) (by first | exact SlC.own rfl | exact iNil (by omega))) ?_; conv => whnf) | ((with_reducible refine And.intro ?hh ?_); (case hh => (unfold InR; (try dsimp only); omega)); conv => whnf) | ((with_reducible refine And.intro ?hh ?_); (case hh => ((try dsimp only); omega)); conv => whnf) | ((with_reducible refine And.intro ?hh ?_); (case hh => ((conv => whnf); (repeat' (first | exact True.intro | rfl | refine And.intro ?_ ?_)); done)); conv => whnf) | fail))
      all_goals (refine ⟨[], ?_, rfl, rfl, trivial, (by (repeat' (first | exact True.intro | rfl | refine And.intro ?_ ?_)))⟩; simp only [renV, renL]; (first | done | rfl | simp | grind))

set_option maxHeartbeats 4000000 in
theorem checkSetting_4 (h : H) (M : List P2) (C : List Int) (x0 x1 x2 x3 : Int) (mv cv lv : V) (hM : M.length ≤ 9223372036854775807) (hC : C.length ≤ 9223372036854775807) (h1 : SlC h (mVs M) M.length mv) (h2 : SlC h (iVs C) C.length cv) (h3 : SlC h (iVs [x0, x1, x2, x3]) 4 lv) (e0 : shErr 4 M C = 0) (e2 : wi (-1) 1 [x0, x1, x2, x3] = true) :
    CallOk Try.prog 17 [sheetV 4 mv cv, lv] h (.tup [.int .i64 (csA 4 M C [x0, x1, x2, x3]).1, .int .i64 (csA 4 M C [x0, x1, x2, x3]).2]) h := by
  obtain ⟨o1, s1, q1, c1, w1⟩ := h1.view 0
  obtain ⟨o2, s2, q2, c2, w2⟩ := h2.view 1
  obtain ⟨o3, s3, q3, c3, w3⟩ := h3.view 2
  obtain ⟨cap3, ex3, rfl⟩ := Sv.pos q3 (by decide)
  refine CallOk.run Try.func17 rfl rfl (argsC := [sheetV 4 s1 s2, .sl 2 0 4 cap3 ex3]) (Nat.le_of_ble_eq_true rfl) [o1, o2, o3] (.cons (CaL.agg (.cons (.bare rfl) (.cons (c1 _ rfl) (.cons (c2 _ rfl) .nil)))) (.cons (c3 _ rfl) .nil)) (viewMc3 mVs_bare w1 iVs_bare w2 iVs_bare w3) rfl (WpR.of_vc ?_)
  have hS := shErr_ok e0
  have hB1 := @mVs_bare M
  have hB2 := @iVs_bare C
  have hB3 := @iVs_bare [x0, x1, x2, x3]
  have k1 := fun h' m' c' h1' h2' => checkSheet_ok h' 4 M C m' c' hM hC h1' h2'
  rw [e0] at k1
  have k2 := fun h' sv' (hs' : SlC h' (iVs [x0, x1, x2, x3]) 4 sv') => within_ok h' (-1) 1 [x0, x1, x2, x3] sv' (by simp) hs'
  rw [e2] at k2
  have k3 := fun h' m' c' h1' h2' => isRight_ok h' x0 x1 x2 x3 (-1) (-1) (-1) (-1) (-1) (-1) (hB_of e2 6) 4 M C hS m' c' h1' h2'
  have hR : rightB [x0, x1, x2, x3, (-1), (-1), (-1), (-1), (-1), (-1)] M C = rightB [x0, x1, x2, x3] M C := right_ext hS (L := [x0, x1, x2, x3]) rfl (List.replicate 6 (-1))
  rw [hR] at k3
  have k4 := fun h' => size_ok h' x0 x1 x2 x3 (-1) (-1) (-1) (-1) (-1) (-1)
  have hN : cnt [x0, x1, x2, x3, (-1), (-1), (-1), (-1), (-1), (-1)] = cnt [x0, x1, x2, x3] := cnt_ext [x0, x1, x2, x3] 6
  rw [hN] at k4
  cases hr : rightB [x0, x1, x2, x3] M C with
  | true =>
    have ec : csA 4 M C [x0, x1, x2, x3] = (cnt [x0, x1, x2, x3], 0) := by unfold csA; rw [if_neg (by omega), if_neg (fun hc => hc rfl), e2, if_neg (by decide), hr, if_neg (by decide)]
    rw [hr] at k3
    rw [ec]
    cases q1 <;> cases q2
    all_goals
      (conv => whnf); (repeat' (first | ((with_reducible refine ifb_mk (fun hc => ?_) (fun hc => ?_)) <;> ((try simp only [decide_eq_true_eq, decide_eq_false_iff_not, Bool.not_eq_true', Bool.not_eq_false', Int.not_lt, Int.not_le, ne_eq, Decidable.not_not, beq_iff_eq, List.cons.injEq, and_true] at hc); (first | (exfalso; omega) | conv => whnf))) | ((with_reducible refine And.intro True.intro ?_); conv => whnf) | ((with_reducible refine CallX.all ?_); refine CallW.of_ok (k1 _ _ _ (by first | exact SlC.own rfl | exact mNil (by omega)) (by first | exact SlC.own rfl | exact iNil (by omega))) ?_; conv => whnf) | ((with_reducible refine CallX.all ?_); refine CallW.of_ok (k2 _ _ (SlC.own rfl)) ?_; conv => whnf) | ((with_reducible refine CallX.all ?_); refine CallW.of_ok (noneSet_ok _) ?_; conv => whnf) | ((with_reducible refine CallX.all ?_); refine CallW.of_ok (k3 _ _ _ (by first | exact SlC.own rfl | exact mNil (by omega)) (by first | exact SlC.own rfl | exact iNil (by omega))) ?_; conv => whnf) | ((with_reducible refine CallX.all ?_); refine CallW.of_ok (k4 _) ?_; conv => whnf) | ((with_reducible refine And.intro ?hh ?_); (case hh => (unfold InR; (try dsimp only); omega)); conv => whnf) | ((with_reducible refine And.intro ?hh ?_); (case hh => ((try dsimp only); omega)); conv => whnf) | ((with_reducible refine And.intro ?hh ?_); (case hh => ((conv => whnf); (repeat' (first | exact True.intro | rfl | refine And.intro ?_ ?_)); done)); conv => whnf) | fail))
      all_goals (refine ⟨[], ?_, rfl, rfl, trivial, (by (repeat' (first | exact True.intro | rfl | refine And.intro ?_ ?_)))⟩; simp only [renV, renL]; (first | done | rfl | simp | grind))
  | false =>
    have ec : csA 4 M C [x0, x1, x2, x3] = (0, 18) := by unfold csA; rw [if_neg (by omega), if_neg (fun hc => hc rfl), e2, if_neg (by decide), hr, if_pos rfl]
    rw [hr] at k3
    rw [ec]
    cases q1 <;> cases q2
    all_goals
      (conv => whnf); (repeat' (first | ((with_reducible refine ifb_mk (fun hc => ?_) (fun hc => ?_)) <;> ((try simp only [decide_eq_true_eq, decide_eq_false_iff_not, Bool.not_eq_true', Bool.not_eq_false', Int.not_lt, Int.not_le, ne_eq, Decidable.not_not, beq_iff_eq, List.cons.injEq, and_true] at hc); (first | (exfalso; omega) | conv => whnf))) | ((with_reducible refine And.intro True.intro ?_); conv => whnf) | ((with_reducible refine CallX.all ?_); refine CallW.of_ok (k1 _ _ _ (by first | exact SlC.own rfl | exact mNil (by omega)) (by first | exact SlC.own rfl | exact iNil (by omega))) ?_; conv => whnf) | ((with_reducible refine CallX.all ?_); refine CallW.of_ok (k2 _ _ (SlC.own rfl)) ?_; conv => whnf) | ((with_reducible refine CallX.all ?_); refine CallW.of_ok (noneSet_ok _) ?_; conv => whnf) | ((with_reducible refine CallX.all ?_); refine CallW.of_ok (k3 _ _ _ (by first | exact SlC.own rfl | exact mNil (by omega)) (by first | exact SlC.own rfl | exact iNil (by omega))) ?_; conv => whnf) | ((with_reducible refine And.intro ?hh ?_); (case hh => (unfold InR; (try dsimp only); omega)); conv => whnf) | ((with_reducible refine And.intro ?hh ?_); (case hh => ((try dsimp only); omega)); conv => whnf) | ((with_reducible refine And.intro ?hh ?_); (case hh => ((conv => whnf); (repeat' (first | exact True.intro | rfl | refine And.intro ?_ ?_)); done)); conv => whnf) | fail))
      all_goals (refine ⟨[], ?_, rfl, rfl, trivial, (by (repeat' (first | exact True.intro | rfl | refine And.intro ?_ ?_)))⟩; simp only [renV, renL]; (first | done | rfl | simp | grind))

set_option maxHeartbeats 4000000 in
theorem checkSetting_5 (h : H) (M : List P2) (C : List Int) (x0 x1 x2 x3 x4 : Int) (mv cv lv : V) (hM : M.length ≤ 9223372036854775807) (hC : C.length ≤ 9223372036854775807) (h1 : SlC h (mVs M) M.length mv) (h2 : SlC h (iVs C) C.length cv) (h3 : SlC h (iVs [x0, x1, x2, x3, x4]) 5 lv) (e0 : shErr 5 M C = 0) (e2 : wi (-1) 1 [x0, x1, x2, x3, x4] = true) :
    CallOk Try.prog 17 [sheetV 5 mv cv, lv] h (.tup [.int .i64 (csA 5 M C [x0, x1, x2, x3, x4]).1, .int .i64 (csA 5 M C [x0, x1, x2, x3, x4]).2]) h := by
  obtain ⟨o1, s1, q1, c1, w1⟩ := h1.view 0
  obtain ⟨o2, s2, q2, c2, w2⟩ := h2.view 1
  obtain ⟨o3, s3, q3, c3, w3⟩ := h3.view 2
  obtain ⟨cap3, ex3, rfl⟩ := Sv.pos q3 (by decide)
  refine CallOk.run Try.func17 rfl rfl (argsC := [sheetV 5 s1 s2, .sl 2 0 5 cap3 ex3]) (Nat.le_of_ble_eq_true rfl) [o1, o2, o3] (.cons (CaL.agg (.cons (.bare rfl) (.cons (c1 _ rfl) (.cons (c2 _ rfl) .nil)))) (.cons (c3 _ rfl) .nil)) (viewMc3 mVs_bare w1 iVs_bare w2 iVs_bare w3) rfl (WpR.of_vc ?_)
  have hS := shErr_ok e0
  have hB1 := @mVs_bare M
  have hB2 := @iVs_bare C
  have hB3 := @iVs_bare [x0, x1, x2, x3, x4]
  have k1 := fun h' m' c' h1' h2' => checkSheet_ok h' 5 M C m' c' hM hC h1' h2'
  rw [e0] at k1
  have k2 := fun h' sv' (hs' : SlC h' (iVs [x0, x1, x2, x3, x4]) 5 sv') => within_ok h' (-1) 1 [x0, x1, x2, x3, x4] sv' (by simp) hs'
  rw [e2] at k2
  have k3 := fun h' m' c' h1' h2' => isRight_ok h' x0 x1 x2 x3 x4 (-1) (-1) (-1) (-1) (-1) (hB_of e2 5) 5 M C hS m' c' h1' h2'
  have hR : rightB [x0, x1, x2, x3, x4, (-1), (-1), (-1), (-1), (-1)] M C = rightB [x0, x1, x2, x3, x4] M C := right_ext hS (L := [x0, x1, x2, x3, x4]) rfl (List.replicate 5 (-1))
  rw [hR] at k3
  have k4 := fun h' => size_ok h' x0 x1 x2 x3 x4 (-1) (-1) (-1) (-1) (-1)
  have hN : cnt [x0, x1, x2, x3, x4, (-1), (-1), (-1), (-1), (-1)] = cnt [x0, x1, x2, x3, x4] := cnt_ext [x0, x1, x2, x3, x4] 5
  rw [hN] at k4
  cases hr : rightB [x0, x1, x2, x3, x4] M C with
  | true =>
    have ec : csA 5 M C [x0, x1, x2, x3, x4] = (cnt [x0, x1, x2, x3, x4], 0) := by unfold csA; rw [if_neg (by omega), if_neg (fun hc => hc rfl), e2, if_neg (by decide), hr, if_neg (by decide)]
    rw [hr] at k3
    rw [ec]
    cases q1 <;> cases q2
    all_goals
      (conv => whnf); (repeat' (first | ((with_reducible refine ifb_mk (fun hc => ?_) (fun hc => ?_)) <;> ((try simp only [decide_eq_true_eq, decide_eq_false_iff_not, Bool.not_eq_true', Bool.not_eq_false', Int.not_lt, Int.not_le, ne_eq, Decidable.not_not, beq_iff_eq, List.cons.injEq, and_true] at hc); (first | (exfalso; omega) | conv => whnf))) | ((with_reducible refine And.intro True.intro ?_); conv => whnf) | ((with_reducible refine CallX.all ?_); refine CallW.of_ok (k1 _ _ _ (by first | exact SlC.own rfl | exact mNil (by omega)) (by first | exact SlC.own rfl | exact iNil (by omega))) ?_; conv => whnf) | ((with_reducible refine CallX.all ?_); refine CallW.of_ok (k2 _ _ (SlC.own rfl)) ?_; conv => whnf) | ((with_reducible refine CallX.all ?_); refine CallW.of_ok (noneSet_ok _) ?_; conv => whnf) | ((with_reducible refine CallX.all ?_); refine CallW.of_ok (k3 _ _ _ (by first | exact SlC.own rfl | exact mNil (by omega)) (by first | exact SlC.own rfl | exact iNil (by omega))) ?_; conv => whnf) | ((with_reducible refine CallX.all ?_); refine CallW.of_ok (k4 _) ?_; conv => whnf) | ((with_reducible refine And.intro ?hh ?_); (case hh => (unfold InR; (try dsimp only); omega)); conv => whnf) | ((with_reducible refine And.intro ?hh ?_); (case hh => ((try dsimp only); omega)); conv => whnf) | ((with_reducible refine And.intro ?hh ?_); (case hh => ((conv => whnf); (repeat' (first | exact True.intro | rfl | refine And.intro ?_ ?_)); done)); conv => whnf) | fail))
      all_goals (refine ⟨[], ?_, rfl, rfl, trivial, (by (repeat' (first | exact True.intro | rfl | refine And.intro ?_ ?_)))⟩; simp only [renV, renL]; (first | done | rfl | simp | grind))
  | false =>
    have ec : csA 5 M C [x0, x1, x2, x3, x4] = (0, 18) := by unfold csA; rw [if_neg (by omega), if_neg (fun hc => hc rfl), e2, if_neg (by decide), hr, if_pos rfl]
    rw [hr] at k3
    rw [ec]
    cases q1 <;> cases q2
    all_goals
      (conv => whnf); (repeat' (first | ((with_reducible refine ifb_mk (fun hc => ?_) (fun hc => ?_)) <;> ((try simp only [decide_eq_true_eq, decide_eq_false_iff_not, Bool.not_eq_true', Bool.not_eq_false', Int.not_lt, Int.not_le, ne_eq, Decidable.not_not, beq_iff_eq, List.cons.injEq, and_true] at hc); (first | (exfalso; omega) | conv => whnf))) | ((with_reducible refine And.intro True.intro ?_); conv => whnf) | ((with_reducible refine CallX.all ?_); refine CallW.of_ok (k1 _ _ _ (by first | exact SlC.own rfl | exact mNil (by omega)) (by first | exact SlC.own rfl | exact iNil (by omega))) ?_; conv => whnf) | ((with_reducible refine CallX.all ?_); refine CallW.of_ok (k2 _ _ (SlC.own rfl)) ?_; conv => whnf) | ((with_reducible refine CallX.all ?_); refine CallW.of_ok (noneSet_ok _) ?_; conv => whnf) | ((with_reducible refine CallX.all ?_); refine CallW.of_ok (k3 _ _ _ (by first | exact SlC.own rfl | exact mNil (by omega)) (by first | exact SlC.own rfl | exact iNil (by omega))) ?_; conv => whnf) | ((with_reducible refine And.intro ?hh ?_); (case hh => (unfold InR; (try dsimp only); omega)); conv => whnf) | ((with_reducible refine And.intro ?hh ?_); (case hh => ((try dsimp only); omega)); conv => whnf) | ((with_reducible refine And.intro ?hh ?_); (case hh => ((conv => whnf); (repeat' (first | exact True.intro | rfl | refine And.intro ?_ ?_)); done)); conv => whnf) | fail))
      all_goals (refine ⟨[], ?_, rfl, rfl, trivial, (by (repeat' (first | exact True.intro | rfl | refine And.intro ?_ ?_)))⟩; simp only [renV, renL]; (first | done | rfl | simp | grind))

set_option maxHeartbeats 4000000 in
theorem checkSetting_6 (h : H) (M : List P2) (C : List Int) (x0 x1 x2 x3 x4 x5 : Int) (mv cv lv : V) (hM : M.length ≤ 9223372036854775807) (hC : C.length ≤ 9223372036854775807) (h1 : SlC h (mVs M) M.length mv) (h2 : SlC h (iVs C) C.length cv) (h3 : SlC h (iVs [x0, x1, x2, x3, x4, x5]) 6 lv) (e0 : shErr 6 M C = 0) (e2 : wi (-1) 1 [x0, x1, x2, x3, x4, x5] = true) :
    CallOk Try.prog 17 [sheetV 6 mv cv, lv] h (.tup [.int .i64 (csA 6 M C [x0, x1, x2, x3, x4, x5]).1, .int .i64 (csA 6 M C [x0, x1, x2, x3, x4, x5]).2]) h := by
  obtain ⟨o1, s1, q1, c1, w1⟩ := h1.view 0
  obtain ⟨o2, s2, q2, c2, w2⟩ := h2.view 1
  obtain ⟨o3, s3, q3, c3, w3⟩ := h3.view 2
  obtain ⟨cap3, ex3, rfl⟩ := Sv.pos q3 (by decide)
  refine CallOk.run Try.func17 rfl rfl (argsC := [sheetV 6 s1 s2, .sl 2 0 6 cap3 ex3]) (Nat.le_of_ble_eq_true rfl) [o1, o2, o3] (.cons (CaL.agg (.cons (.bare rfl) (.cons (c1 _ rfl) (.cons (c2 _ rfl) .nil)))) (.cons (c3 _ rfl) .nil)) (viewMc3 mVs_bare w1 iVs_bare w2 iVs_bare w3) rfl (WpR.of_vc ?_)
  have hS := shErr_ok e0
  have hB1 := @mVs_bare M
  have hB2 := @iVs_bare C
  have hB3 := @iVs_bare [x0, x1, x2, x3, x4, x5]
  have k1 := fun h' m' c' h1' h2' => checkSheet_ok h' 6 M C m' c' hM hC h1' h2'
  rw [e0] at k1
  have k2 := fun h' sv' (hs' : SlC h' (iVs [x0, x1, x2, x3, x4, x5]) 6 sv') => within_ok h' (-1) 1 [x0, x1, x2, x3, x4, x5] sv' (by simp) hs'
  rw [e2] at k2
  have k3 := fun h' m' c' h1' h2' => isRight_ok h' x0 x1 x2 x3 x4 x5 (-1) (-1) (-1) (-1) (hB_of e2 4) 6 M C hS m' c' h1' h2'
  have hR : rightB [x0, x1, x2, x3, x4, x5, (-1), (-1), (-1), (-1)] M C = rightB [x0, x1, x2, x3, x4, x5] M C := right_ext hS (L := [x0, x1, x2, x3, x4, x5]) rfl (List.replicate 4 (-1))
  rw [hR] at k3
  have k4 := fun h' => size_ok h' x0 x1 x2 x3 x4 x5 (-1) (-1) (-1) (-1)
  have hN : cnt [x0, x1, x2, x3, x4, x5, (-1), (-1), (-1), (-1)] = cnt [x0, x1, x2, x3, x4, x5] := cnt_ext [x0, x1, x2, x3, x4, x5] 4
  rw [hN] at k4
  cases hr : rightB [x0, x1, x2, x3, x4, x5] M C with
  | true =>
    have ec : csA 6 M C [x0, x1, x2, x3, x4, x5] = (cnt [x0, x1, x2, x3, x4, x5], 0) := by unfold csA; rw [if_neg (by omega), if_neg (fun hc => hc rfl), e2, if_neg (by decide), hr, if_neg (by decide)]
    rw [hr] at k3
    rw [ec]
    cases q1 <;> cases q2
    all_goals
      (conv => whnf); (repeat' (first | ((with_reducible refine ifb_mk (fun hc => ?_) (fun hc => ?_)) <;> ((try simp only [decide_eq_true_eq, decide_eq_false_iff_not, Bool.not_eq_true', Bool.not_eq_false', Int.not_lt, Int.not_le, ne_eq, Decidable.not_not, beq_iff_eq, List.cons.injEq, and_true] at hc); (first | (exfalso; omega) | conv => whnf))) | ((with_reducible refine And.intro True.intro ?_); conv => whnf) | ((with_reducible refine CallX.all ?_); refine CallW.of_ok (k1 _ _ _ (by first | exact SlC.own rfl | exact mNil (by omega)) (by first | exact SlC.own rfl | exact iNil (by omega))) ?_; conv => whnf) | ((with_reducible refine CallX.all ?_); refine CallW.of_ok (k2 _ _ (SlC.own rfl)) ?_; conv => whnf) | ((with_reducible refine CallX.all ?_); refine CallW.of_ok (noneSet_ok _) ?_; conv => whnf) | ((with_reducible refine CallX.all ?_); refine CallW.of_ok (k3 _ _ _ (by first | exact SlC.own rfl | exact mNil (by omega)) (by first | exact SlC.own rfl | exact iNil (by omega))) ?_; conv => whnf) | ((with_reducible refine CallX.all ?_); refine CallW.of_ok (k4 _) ?_; conv => whnf) | ((with_reducible refine And.intro ?hh ?_); (case hh => (unfold InR; (try dsimp only); omega)); conv => whnf) | ((with_reducible refine And.intro ?hh ?_); (case hh => ((try dsimp only); omega)); conv => whnf) | ((with_reducible refine And.intro ?hh ?_); (case hh => ((conv => whnf); (repeat' (first | exact True.intro | rfl | refine And.intro ?_ ?_)); done)); conv => whnf) | fail))
      all_goals (refine ⟨[], ?_, rfl, rfl, trivial, (by (repeat' (first | exact True.intro | rfl | refine And.intro ?_ ?_)))⟩; simp only [renV, renL]; (first | done | rfl | simp | grind))
  | false =>
    have ec : csA 6 M C [x0, x1, x2, x3, x4, x5] = (0, 18) := by unfold csA; rw [if_neg (by omega), if_neg (fun hc => hc rfl), e2, if_neg (by decide), hr, if_pos rfl]
    rw [hr] at k3
    rw [ec]
    cases q1 <;> cases q2
    all_goals
      (conv => whnf); (repeat' (first | ((with_reducible refine ifb_mk (fun hc => ?_) (fun hc => ?_)) <;> ((try simp only [decide_eq_true_eq, decide_eq_false_iff_not, Bool.not_eq_true', Bool.not_eq_false', Int.not_lt, Int.not_le, ne_eq, Decidable.not_not, beq_iff_eq, List.cons.injEq, and_true] at hc); (first | (exfalso; omega) | conv => whnf))) | ((with_reducible refine And.intro True.intro ?_); conv => whnf) | ((with_reducible refine CallX.all ?_); refine CallW.of_ok (k1 _ _ _ (by first | exact SlC.own rfl | exact mNil (by omega)) (by first | exact SlC.own rfl | exact iNil (by omega))) ?_; conv => whnf) | ((with_reducible refine CallX.all ?_); refine CallW.of_ok (k2 _ _ (SlC.own rfl)) ?_; conv => whnf) | ((with_reducible refine CallX.all ?_); refine CallW.of_ok (noneSet_ok _) ?_; conv => whnf) | ((with_reducible refine CallX.all ?_); refine CallW.of_ok (k3 _ _ _ (by first | exact SlC.own rfl | exact mNil (by omega)) (by first | exact SlC.own rfl | exact iNil (by omega))) ?_; conv => whnf) | ((with_reducible refine And.intro ?hh ?_); (case hh => (unfold InR; (try dsimp only); omega)); conv => whnf) | ((with_reducible refine And.intro ?hh ?_); (case hh => ((try dsimp only); omega)); conv => whnf) | ((with_reducible refine And.intro ?hh ?_); (case hh => ((conv => whnf); (repeat' (first | exact True.intro | rfl | refine And.intro ?_ ?_)); done)); conv => whnf) | fail))
      all_goals (refine ⟨[], ?_, rfl, rfl, trivial, (by (repeat' (first | exact True.intro | rfl | refine And.intro ?_ ?_)))⟩; simp only [renV, renL]; (first | done | rfl | simp | grind))

set_option maxHeartbeats 4000000 in
theorem checkSetting_7 (h : H) (M : List P2) (C : List Int) (x0 x1 x2 x3 x4 x5 x6 : Int) (mv cv lv : V) (hM : M.length ≤ 9223372036854775807) (hC : C.length ≤ 9223372036854775807) (h1 : SlC h (mVs M) M.length mv) (h2 : SlC h (iVs C) C.length cv) (h3 : SlC h (iVs [x0, x1, x2, x3, x4, x5, x6]) 7 lv) (e0 : shErr 7 M C = 0) (e2 : wi (-1) 1 [x0, x1, x2, x3, x4, x5, x6] = true) :
    CallOk Try.prog 17 [sheetV 7 mv cv, lv] h (.tup [.int .i64 (csA 7 M C [x0, x1, x2, x3, x4, x5, x6]).1, .int .i64 (csA 7 M C [x0, x1, x2, x3, x4, x5, x6]).2]) h := by
  obtain ⟨o1, s1, q1, c1, w1⟩ := h1.view 0
  obtain ⟨o2, s2, q2, c2, w2⟩ := h2.view 1
  obtain ⟨o3, s3, q3, c3, w3⟩ := h3.view 2
  obtain ⟨cap3, ex3, rfl⟩ := Sv.pos q3 (by decide)
  refine CallOk.run Try.func17 rfl rfl (argsC := [sheetV 7 s1 s2, .sl 2 0 7 cap3 ex3]) (Nat.le_of_ble_eq_true rfl) [o1, o2, o3] (.cons (CaL.agg (.cons (.bare rfl) (.cons (c1 _ rfl) (.cons (c2 _ rfl) .nil)))) (.cons (c3 _ rfl) .nil)) (viewMc3 mVs_bare w1 iVs_bare w2 iVs_bare w3) rfl (WpR.of_vc ?_)
  have hS := shErr_ok e0
  have hB1 := @mVs_bare M
  have hB2 := @iVs_bare C
  have hB3 := @iVs_bare [x0, x1, x2, x3, x4, x5, x6]
  have k1 := fun h' m' c' h1' h2' => checkSheet_ok h' 7 M C m' c' hM hC h1' h2'
  rw [e0] at k1
  have k2 := fun h' sv' (hs' : SlC h' (iVs [x0, x1, x2, x3, x4, x5, x6]) 7 sv') => within_ok h' (-1) 1 [x0, x1, x2, x3, x4, x5, x6] sv' (by simp) hs'
  rw [e2] at k2
  have k3 := fun h' m' c' h1' h2' => isRight_ok h' x0 x1 x2 x3 x4 x5 x6 (-1) (-1) (-1) (hB_of e2 3) 7 M C hS m' c' h1' h2'
  have hR : rightB [x0, x1, x2, x3, x4, x5, x6, (-1), (-1), (-1)] M C = rightB [x0, x1, x2, x3, x4, x5, x6] M C := right_ext hS (L := [x0, x1, x2, x3, x4, x5, x6]) rfl (List.replicate 3 (-1))
  rw [hR] at k3
  have k4 := fun h' => size_ok h' x0 x1 x2 x3 x4 x5 x6 (-1) (-1) (-1)
  have hN : cnt [x0, x1, x2, x3, x4, x5, x6, (-1), (-1), (-1)] = cnt [x0, x1, x2, x3, x4, x5, x6] := cnt_ext [x0, x1, x2, x3, x4, x5, x6] 3
  rw [hN] at k4
  cases hr : rightB [x0, x1, x2, x3, x4, x5, x6] M C with
  | true =>
    have ec : csA 7 M C [x0, x1, x2, x3, x4, x5, x6] = (cnt [x0, x1, x2, x3, x4, x5, x6], 0) := by unfold csA; rw [if_neg (by omega), if_neg (fun hc => hc rfl), e2, if_neg (by decide), hr, if_neg (by decide)]
    rw [hr] at k3
    rw [ec]
    cases q1 <;> cases q2
    all_goals
      (conv => whnf); (repeat' (first | ((with_reducible refine ifb_mk (fun hc => ?_) (fun hc => ?_)) <;> ((try simp only [decide_eq_true_eq, decide_eq_false_iff_not, Bool.not_eq_true', Bool.not_eq_false', Int.not_lt, Int.not_le, ne_eq, Decidable.not_not, beq_iff_eq, List.cons.injEq, and_true] at hc); (first | (exfalso; omega) | conv => whnf))) | ((with_reducible refine And.intro True.intro ?_); conv => whnf) | ((with_reducible refine CallX.all ?_); refine CallW.of_ok (k1 _ _ _ (by first | exact SlC.own rfl | exact mNil (by omega)) (by first | exact SlC.own rfl | exact iNil (by omega))) ?_; conv => whnf) | ((with_reducible refine CallX.all ?_); refine CallW.of_ok (k2 _ _ (SlC.own rfl)) ?_; conv => whnf) | ((with_reducible refine CallX.all ?_); refine CallW.of_ok (noneSet_ok _) ?_; conv => whnf) | ((with_reducible refine CallX.all ?_); refine CallW.of_ok (k3 _ _ _ (by first | exact SlC.own rfl | exact mNil (by omega)) (by first | exact SlC.own rfl | exact iNil (by omega))) ?_; conv => whnf) | ((with_reducible refine CallX.all ?_); refine CallW.of_ok (k4 _) ?_; conv => whnf) | ((with_reducible refine And.intro ?hh ?_); (case hh => (unfold InR; (try dsimp only); omega)); conv => whnf) | ((with_reducible refine And.intro ?hh ?_); (case hh => ((try dsimp only); omega)); conv => whnf) | ((with_reducible refine And.intro ?hh ?_); (case hh => ((conv => whnf); (repeat' (first | exact True.intro | rfl | refine And.intro ?_ ?_)); done)); conv => whnf) | fail))
      all_goals (refine ⟨[], ?_, rfl, rfl, trivial, (by (repeat' (first | exact True.intro | rfl | refine And.intro ?_ ?_)))⟩; simp only [renV, renL]; (first | done | rfl | simp | grind))
  | false =>
    have ec : csA 7 M C [x0, x1, x2, x3, x4, x5, x6] = (0, 18) := by unfold csA; rw [if_neg (by omega), if_neg (fun hc => hc rfl), e2, if_neg (by decide), hr, if_pos rfl]
    rw [hr] at k3
    rw [ec]
    cases q1 <;> cases q2
    all_goals
      (conv => whnf); (repeat' (first | ((with_reducible refine ifb_mk (fun hc => ?_) (fun hc => ?_)) <;> ((try simp only [decide_eq_true_eq, decide_eq_false_iff_not, Bool.not_eq_true', Bool.not_eq_false', Int.not_lt, Int.not_le, ne_eq, Decidable.not_not, beq_iff_eq, List.cons.injEq, and_true] at hc); (first | (exfalso; omega) | conv => whnf))) | ((with_reducible refine And.intro True.intro ?_); conv => whnf) | ((with_reducible refine CallX.all ?_); refine CallW.of_ok (k1 _ _ _ (by first | exact SlC.own rfl | exact mNil (by omega)) (by first | exact SlC.own rfl | exact iNil (by omega))) ?_; conv => whnf) | ((with_reducible refine CallX.all ?_); refine CallW.of_ok (k2 _ _ (SlC.own rfl)) ?_; conv => whnf) | ((with_reducible refine CallX.all ?_); refine CallW.of_ok (noneSet_ok _) ?_; conv => whnf) | ((with_reducible refine CallX.all ?_); refine CallW.of_ok (k3 _ _ _ (by first | exact SlC.own rfl | exact mNil (by omega)) (by first | exact SlC.own rfl | exact iNil (by omega))) ?_; conv => whnf) | ((with_reducible refine And.intro ?hh ?_); (case hh => (unfold InR; (try dsimp only); omega)); conv => whnf) | ((with_reducible refine And.intro ?hh ?_); (case hh => ((try dsimp only); omega)); conv => whnf) | ((with_reducible refine And.intro ?hh ?_); (case hh => ((conv => whnf); (repeat' (first | exact True.intro | rfl | refine And.intro ?_ ?_)); done)); conv => whnf) | fail))
      all_goals (refine ⟨[], ?_, rfl, rfl, trivial, (by (repeat' (first | exact True.intro | rfl | refine And.intro ?_ ?_)))⟩; simp only [renV, renL]; (first | done | rfl | simp | grind))

set_option maxHeartbeats 4000000 in
theorem checkSetting_8 (h : H) (M : List P2) (C : List Int) (x0 x1 x2 x3 x4 x5 x6 x7 : Int) (mv cv lv : V) (hM : M.length ≤ 9223372036854775807) (hC : C.length ≤ 9223372036854775807) (h1 : SlC h (mVs M) M.length mv) (h2 : SlC h (iVs C) C.length cv) (h3 : SlC h (iVs [x0, x1, x2, x3, x4, x5, x6, x7]) 8 lv) (e0 : shErr 8 M C = 0) (e2 : wi (-1) 1 [x0, x1, x2, x3, x4, x5, x6, x7] = true) :
    CallOk Try.prog 17 [sheetV 8 mv cv, lv] h (.tup [.int .i64 (csA 8 M C [x0, x1, x2, x3, x4, x5, x6, x7]).1, .int .i64 (csA 8 M C [x0, x1, x2, x3, x4, x5, x6, x7]).2]) h := by
  obtain ⟨o1, s1, q1, c1, w1⟩ := h1.view 0
  obtain ⟨o2, s2, q2, c2, w2⟩ := h2.view 1
  obtain ⟨o3, s3, q3, c3, w3⟩ := h3.view 2
  obtain ⟨cap3, ex3, rfl⟩ := Sv.pos q3 (by decide)
  refine CallOk.run Try.func17 rfl rfl (argsC := [sheetV 8 s1 s2, .sl 2 0 8 cap3 ex3]) (Nat.le_of_ble_eq_true rfl) [o1, o2, o3] (.cons (CaL.agg (.cons (.bare rfl) (.cons (c1 _ rfl) (.cons (c2 _ rfl) .nil)))) (.cons (c3 _ rfl) .nil)) (viewMc3 mVs_bare w1 iVs_bare w2 iVs_bare w3) rfl (WpR.of_vc ?_)
  have hS := shErr_ok e0
  have hB1 := @mVs_bare M
  have hB2 := @iVs_bare C
  have hB3 := @iVs_bare [x0, x1, x2, x3, x4, x5, x6, x7]
  have k1 := fun h' m' c' h1' h2' => checkSheet_ok h' 8 M C m' c' hM hC h1' h2'
  rw [e0] at k1
  have k2 := fun h' sv' (hs' : SlC h' (iVs [x0, x1, x2, x3, x4, x5, x6, x7]) 8 sv') => within_ok h' (-1) 1 [x0, x1, x2, x3, x4, x5, x6, x7] sv' (by simp) hs'
  rw [e2] at k2
  have k3 := fun h' m' c' h1' h2' => isRight_ok h' x0 x1 x2 x3 x4 x5 x6 x7 (-1) (-1) (hB_of e2 2) 8 M C hS m' c' h1' h2'
  have hR : rightB [x0, x1, x2, x3, x4, x5, x6, x7, (-1), (-1)] M C = rightB [x0, x1, x2, x3, x4, x5, x6, x7] M C := right_ext hS (L := [x0, x1, x2, x3, x4, x5, x6, x7]) rfl (List.replicate 2 (-1))
  rw [hR] at k3
  have k4 := fun h' => size_ok h' x0 x1 x2 x3 x4 x5 x6 x7 (-1) (-1)
  have hN : cnt [x0, x1, x2, x3, x4, x5, x6, x7, (-1), (-1)] = cnt [x0, x1, x2, x3, x4, x5, x6, x7] := cnt_ext [x0, x1, x2, x3, x4, x5, x6, x7] 2
  rw [hN] at k4
  cases hr : rightB [x0, x1, x2, x3, x4, x5, x6, x7] M C with
  | true =>
    have ec : csA 8 M C [x0, x1, x2, x3, x4, x5, x6, x7] = (cnt [x0, x1, x2, x3, x4, x5, x6, x7], 0) := by unfold csA; rw [if_neg (by omega), if_neg (fun hc => hc rfl), e2, if_neg (by decide), hr, if_neg (by decide)]
    rw [hr] at k3
    rw [ec]
    cases q1 <;> cases q2
    all_goals
      (conv => whnf); (repeat' (first | ((with_reducible refine ifb_mk (fun hc => ?_) (fun hc => ?_)) <;> ((try simp only [decide_eq_true_eq, decide_eq_false_iff_not, Bool.not_eq_true', Bool.not_eq_false', Int.not_lt, Int.not_le, ne_eq, Decidable.not_not, beq_iff_eq, List.cons.injEq, and_true] at hc); (first | (exfalso; omega) | conv => whnf))) | ((with_reducible refine And.intro True.intro ?_); conv => whnf) | ((with_reducible refine CallX.all ?_); refine CallW.of_ok (k1 _ _ _ (by first | exact SlC.own rfl | exact mNil (by omega)) (by first | exact SlC.own rfl | exact iNil (by omega))) ?_; conv => whnf) | ((with_reducible refine CallX.all ?_); refine CallW.of_ok (k2 _ _ (SlC.own rfl)) ?_; conv => whnf) | ((with_reducible refine CallX.all ?_); refine CallW.of_ok (noneSet_ok _) ?_; conv => whnf) | ((with_reducible refine CallX.all ?_); refine CallW.of_ok (k3 _ _ _ (by first | exact SlC.own rfl | exact mNil (by omega)) (by first | exact SlC.own rfl | exact iNil (by omega))) ?_; conv => whnf) | ((with_reducible refine CallX.all ?_); refine CallW.of_ok (k4 _) ?_; conv => whnf) | ((with_reducible refine And.intro ?hh ?_); (case hh => (unfold InR; (try dsimp only); omega)); conv => whnf) | ((with_reducible refine And.intro ?hh ?_); (case hh => ((try dsimp only); omega)); conv => whnf) | ((with_reducible refine And.intro ?hh ?_); (case hh => ((conv => whnf); (repeat' (first | exact True.intro | rfl | refine And.intro ?_ ?_)); done)); conv => whnf) | fail))
      all_goals (refine ⟨[], ?_, rfl, rfl, trivial, (by (repeat' (first | exact True.intro | rfl | refine And.intro ?_ ?_)))⟩; simp only [renV, renL]; (first | done | rfl | simp | grind))
  | false =>
    have ec : csA 8 M C [x0, x1, x2, x3, x4, x5, x6, x7] = (0, 18) := by unfold csA; rw [if_neg (by omega), if_neg (fun hc => hc rfl), e2, if_neg (by decide), hr, if_pos rfl]
    rw [hr] at k3
    rw [ec]
    cases q1 <;> cases q2
    all_goals
      (conv => whnf); (repeat' (first | ((with_reducible refine ifb_mk (fun hc => ?_) (fun hc => ?_)) <;> ((try simp only [decide_eq_true_eq, decide_eq_false_iff_not, Bool.not_eq_true', Bool.not_eq_false', Int.not_lt, Int.not_le, ne_eq, Decidable.not_not, beq_iff_eq, List.cons.injEq, and_true] at hc); (first | (exfalso; omega) | conv => whnf))) | ((with_reducible refine And.intro True.intro ?_); conv => whnf) | ((with_reducible refine CallX.all ?_); refine CallW.of_ok (k1 _ _ _ (by first | exact SlC.own rfl | exact mNil (by omega)) (by first | exact SlC.own rfl | exact iNil (by omega))) ?_; conv => whnf) | ((with_reducible refine CallX.all ?_); refine CallW.of_ok (k2 _ _ (SlC.own rfl)) ?_; conv => whnf) | ((with_reducible refine CallX.all ?_); refine CallW.of_ok (noneSet_ok _) ?_; conv => whnf) | ((with_reducible refine CallX.all ?_); refine CallW.of_ok (k3 _ _ _ (by first | exact SlC.own rfl | exact mNil (by omega)) (by first | exact SlC.own rfl | exact iNil (by omega))) ?_; conv => whnf) | ((with_reducible refine And.intro ?hh ?_); (case hh => (unfold InR; (try dsimp only); omega)); conv => whnf) | ((with_reducible refine And.intro ?hh ?_); (case hh => ((try dsimp only); omega)); conv => whnf) | ((with_reducible refine And.intro ?hh ?_); (case hh => ((conv => whnf); (repeat' (first | exact True.intro | rfl | refine And.intro ?_ ?_)); done)); conv => whnf) | fail))
      all_goals (refine ⟨[], ?_, rfl, rfl, trivial, (by (repeat' (first | exact True.intro | rfl | refine And.intro ?_ ?_)))⟩; simp only [renV, renL]; (first | done | rfl | simp | grind))

set_option maxHeartbeats 4000000 in
theorem checkSetting_9 (h : H) (M : List P2) (C : List Int) (x0 x1 x2 x3 x4 x5 x6 x7 x8 : Int) (mv cv lv : V) (hM : M.length ≤ 9223372036854775807) (hC : C.length ≤ 9223372036854775807) (h1 : SlC h (mVs M) M.length mv) (h2 : SlC h (iVs C) C.length cv) (h3 : SlC h (iVs [x0, x1, x2, x3, x4, x5, x6, x7, x8]) 9 lv) (e0 : shErr 9 M C = 0) (e2 : wi (-1) 1 [x0, x1, x2, x3, x4, x5, x6, x7, x8] = true) :
    CallOk Try.prog 17 [sheetV 9 mv cv, lv] h (.tup [.int .i64 (csA 9 M C [x0, x1, x2, x3, x4, x5, x6, x7, x8]).1, .int .i64 (csA 9 M C [x0, x1, x2, x3, x4, x5, x6, x7, x8]).2]) h := by
  obtain ⟨o1, s1, q1, c1, w1⟩ := h1.view 0
  obtain ⟨o2, s2, q2, c2, w2⟩ := h2.view 1
  obtain ⟨o3, s3, q3, c3, w3⟩ := h3.view 2
  obtain ⟨cap3, ex3, rfl⟩ := Sv.pos q3 (by decide)
  refine CallOk.run Try.func17 rfl rfl (argsC := [sheetV 9 s1 s2, .sl 2 0 9 cap3 ex3]) (Nat.le_of_ble_eq_true rfl) [o1, o2, o3] (.cons (CaL.agg (.cons (.bare rfl) (.cons (c1 _ rfl) (.cons (c2 _ rfl) .nil)))) (.cons (c3 _ rfl) .nil)) (viewMc3 mVs_bare w1 iVs_bare w2 iVs_bare w3) rfl (WpR.of_vc ?_)
  have hS := shErr_ok e0
  have hB1 := @mVs_bare M
  have hB2 := @iVs_bare C
  have hB3 := @iVs_bare [x0, x1, x2, x3, x4, x5, x6, x7, x8]
  have k1 := fun h' m' c' h1' h2' => checkSheet_ok h' 9 M C m' c' hM hC h1' h2'
  rw [e0] at k1
  have k2 := fun h' sv' (hs' : SlC h' (iVs [x0, x1, x2, x3, x4, x5, x6, x7, x8]) 9 sv') => within_ok h' (-1) 1 [x0, x1, x2, x3, x4, x5, x6, x7, x8] sv' (by simp) hs'
  rw [e2] at k2
  have k3 := fun h' m' c' h1' h2' => isRight_ok h' x0 x1 x2 x3 x4 x5 x6 x7 x8 (-1) (hB_of e2 1) 9 M C hS m' c' h1' h2'
  have hR : rightB [x0, x1, x2, x3, x4, x5, x6, x7, x8, (-1)] M C = rightB [x0, x1, x2, x3, x4, x5, x6, x7, x8] M C := right_ext hS (L := [x0, x1, x2, x3, x4, x5, x6, x7, x8]) rfl (List.replicate 1 (-1))
  rw [hR] at k3
  have k4 := fun h' => size_ok h' x0 x1 x2 x3 x4 x5 x6 x7 x8 (-1)
  have hN : cnt [x0, x1, x2, x3, x4, x5, x6, x7, x8, (-1)] = cnt [x0, x1, x2, x3, x4, x5, x6, x7, x8] := cnt_ext [x0, x1, x2, x3, x4, x5, x6, x7, x8] 1
  rw [hN] at k4
  cases hr : rightB [x0, x1, x2, x3, x4, x5, x6, x7, x8] M C with
  | true =>
    have ec : csA 9 M C [x0, x1, x2, x3, x4, x5, x6, x7, x8] = (cnt [x0, x1, x2, x3, x4, x5, x6, x7, x8], 0) := by unfold csA; rw [if_neg (by omega), if_neg (fun hc => hc rfl), e2, if_neg (by decide), hr, if_neg (by decide)]
    rw [hr] at k3
    rw [ec]
    cases q1 <;> cases q2
    all_goals
      (conv => whnf); (repeat' (first | ((with_reducible refine ifb_mk (fun hc => ?_) (fun hc => ?_)) <;> ((try simp only [decide_eq_true_eq, decide_eq_false_iff_not, Bool.not_eq_true', Bool.not_eq_false', Int.not_lt, Int.not_le, ne_eq, Decidable.not_not, beq_iff_eq, List.cons.injEq, and_true] at hc); (first | (exfalso; omega) | conv => whnf))) | ((with_reducible refine And.intro True.intro ?_); conv => whnf) | ((with_reducible refine CallX.all ?_); refine CallW.of_ok (k1 _ _ _ (by first | exact SlC.own rfl | exact mNil (by omega)) (by first | exact SlC.own rfl | exact iNil (by omega))) ?_; conv => whnf) | ((with_reducible refine CallX.all ?_); refine CallW.of_ok (k2 _ _ (SlC.own rfl)) ?_; conv => whnf) | ((with_reducible refine CallX.all ?_); refine CallW.of_ok (noneSet_ok _) ?_; conv => whnf) | ((with_reducible refine CallX.all ?_); refine CallW.of_ok (k3 _ _ _ (by first | exact SlC.own rfl | exact mNil (by omega)) (by first | exact SlC.own rfl | exact iNil (by omega))) ?_; conv => whnf) | ((with_reducible refine CallX.all ?_); refine CallW.of_ok (k4 _) ?_; conv => whnf) | ((with_reducible refine And.intro ?hh ?_); (case hh => (unfold InR; (try dsimp only); omega)); conv => whnf) | ((with_reducible refine And.intro ?hh ?_); (case hh => ((try dsimp only); omega)); conv => whnf) | ((with_reducible refine And.intro ?hh ?_); (case hh => ((conv => whnf); (repeat' (first | exact True.intro | rfl | refine And.intro ?_ ?_)); done)); conv => whnf) | fail))
      all_goals (refine ⟨[], ?_, rfl, rfl, trivial, (by (repeat' (first | exact True.intro | rfl | refine And.intro ?_ ?_)))⟩; simp only [renV, renL]; (first | done | rfl | simp | grind))
  | false =>
    have ec : csA 9 M C [x0, x1, x2, x3, x4, x5, x6, x7, x8] = (0, 18) := by unfold csA; rw [if_neg (by omega), if_neg (fun hc => hc rfl), e2, if_neg (by decide), hr, if_pos rfl]
    rw [hr] at k3
    rw [ec]
    cases q1 <;> cases q2
    all_goals
      (conv => whnf); (repeat' (first | ((with_reducible refine ifb_mk (fun hc => ?_) (fun hc => ?_)) <;> ((try simp only [decide_eq_true_eq, decide_eq_false_iff_not, Bool.not_eq_true', Bool.not_eq_false', Int.not_lt, Int.not_le, ne_eq, Decidable.not_not, beq_iff_eq, List.cons.injEq, and_true] at hc); (first | (exfalso; omega) | conv => whnf))) | ((with_reducible refine And.intro True.intro ?_); conv => whnf) | ((with_reducible refine CallX.all ?_); refine CallW.of_ok (k1 _ _ _ (by first | exact SlC.own rfl | exact mNil (by omega)) (by first | exact SlC.own rfl | exact iNil (by omega))) ?_; conv => whnf) | ((with_reducible refine CallX.all ?_); refine CallW.of_ok (k2 _ _ (SlC.own rfl)) ?_; conv => whnf) | ((with_reducible refine CallX.all ?_); refine CallW.of_ok (noneSet_ok _) ?_; conv => whnf) | ((with_reducible refine CallX.all ?_); refine CallW.of_ok (k3 _ _ _ (by first | exact SlC.own rfl | exact mNil (by omega)) (by first | exact SlC.own rfl | exact iNil (by omega))) ?_; conv => whnf) | ((with_reducible refine And.intro ?hh ?_); (case hh => (unfold InR; (try dsimp only); omega)); conv => whnf) | ((with_reducible refine And.intro ?hh ?_); (case hh => ((try dsimp only); omega)); conv => whnf) | ((with_reducible refine And.intro ?hh ?_); (case hh => ((conv => whnf); (repeat' (first | exact True.intro | rfl | refine And.intro ?_ ?_)); done)); conv => whnf) | fail))
      all_goals (refine ⟨[], ?_, rfl, rfl, trivial, (by (repeat' (first | exact True.intro | rfl | refine And.intro ?_ ?_)))⟩; simp only [renV, renL]; (first | done | rfl | simp | grind))

set_option maxHeartbeats 4000000 in
theorem checkSetting_10 (h : H) (M : List P2) (C : List Int) (x0 x1 x2 x3 x4 x5 x6 x7 x8 x9 : Int) (mv cv lv : V) (hM : M.length ≤ 9223372036854775807) (hC : C.length ≤ 9223372036854775807) (h1 : SlC h (mVs M) M.length mv) (h2 : SlC h (iVs C) C.length cv) (h3 : SlC h (iVs [x0, x1, x2, x3, x4, x5, x6, x7, x8, x9]) 10 lv) (e0 : shErr 10 M C = 0) (e2 : wi (-1) 1 [x0, x1, x2, x3, x4, x5, x6, x7, x8, x9] = true) :
    CallOk Try.prog 17 [sheetV 10 mv cv, lv] h (.tup [.int .i64 (csA 10 M C [x0, x1, x2, x3, x4, x5, x6, x7, x8, x9]).1, .int .i64 (csA 10 M C [x0, x1, x2, x3, x4, x5, x6, x7, x8, x9]).2]) h := by
  obtain ⟨o1, s1, q1, c1, w1⟩ := h1.view 0
  obtain ⟨o2, s2, q2, c2, w2⟩ := h2.view 1
  obtain ⟨o3, s3, q3, c3, w3⟩ := h3.view 2
  obtain ⟨cap3, ex3, rfl⟩ := Sv.pos q3 (by decide)
  refine CallOk.run Try.func17 rfl rfl (argsC := [sheetV 10 s1 s2, .sl 2 0 10 cap3 ex3]) (Nat.le_of_ble_eq_true rfl) [o1, o2, o3] (.cons (CaL.agg (.cons (.bare rfl) (.cons (c1 _ rfl) (.cons (c2 _ rfl) .nil)))) (.cons (c3 _ rfl) .nil)) (viewMc3 mVs_bare w1 iVs_bare w2 iVs_bare w3) rfl (WpR.of_vc ?_)
  have hS := shErr_ok e0
  have hB1 := @mVs_bare M
  have hB2 := @iVs_bare C
  have hB3 := @iVs_bare [x0, x1, x2, x3, x4, x5, x6, x7, x8, x9]
  have k1 := fun h' m' c' h1' h2' => checkSheet_ok h' 10 M C m' c' hM hC h1' h2'
  rw [e0] at k1
  have k2 := fun h' sv' (hs' : SlC h' (iVs [x0, x1, x2, x3, x4, x5, x6, x7, x8, x9]) 10 sv') => within_ok h' (-1) 1 [x0, x1, x2, x3, x4, x5, x6, x7, x8, x9] sv' (by simp) hs'
  rw [e2] at k2
  have k3 := fun h' m' c' h1' h2' => isRight_ok h' x0 x1 x2 x3 x4 x5 x6 x7 x8 x9 (hB_of e2 0) 10 M C hS m' c' h1' h2'
  have hR : rightB [x0, x1, x2, x3, x4, x5, x6, x7, x8, x9] M C = rightB [x0, x1, x2, x3, x4, x5, x6, x7, x8, x9] M C := right_ext hS (L := [x0, x1, x2, x3, x4, x5, x6, x7, x8, x9]) rfl (List.replicate 0 (-1))
  rw [hR] at k3
  have k4 := fun h' => size_ok h' x0 x1 x2 x3 x4 x5 x6 x7 x8 x9
  have hN : cnt [x0, x1, x2, x3, x4, x5, x6, x7, x8, x9] = cnt [x0, x1, x2, x3, x4, x5, x6, x7, x8, x9] := cnt_ext [x0, x1, x2, x3, x4, x5, x6, x7, x8, x9] 0
  rw [hN] at k4
  cases hr : rightB [x0, x1, x2, x3, x4, x5, x6, x7, x8, x9] M C with
  | true =>
    have ec : csA 10 M C [x0, x1, x2, x3, x4, x5, x6, x7, x8, x9] = (cnt [x0, x1, x2, x3, x4, x5, x6, x7, x8, x9], 0) := by unfold csA; rw [if_neg (by omega), if_neg (fun hc => hc rfl), e2, if_neg (by decide), hr, if_neg (by decide)]
    rw [hr] at k3
    rw [ec]
    cases q1 <;> cases q2
    all_goals
      (conv => whnf); (repeat' (first | ((with_reducible refine ifb_mk (fun hc => ?_) (fun hc => ?_)) <;> ((try simp only [decide_eq_true_eq, decide_eq_false_iff_not, Bool.not_eq_true', Bool.not_eq_false', Int.not_lt, Int.not_le, ne_eq, Decidable.not_not, beq_iff_eq, List.cons.injEq, and_true] at hc); (first | (exfalso; omega) | conv => whnf))) | ((with_reducible refine And.intro True.intro ?_); conv => whnf) | ((with_reducible refine CallX.all ?_); refine CallW.of_ok (k1 _ _ _ (by first | exact SlC.own rfl | exact mNil (by omega)) (by first | exact SlC.own rfl | exact iNil (by omega))) ?_; conv => whnf) | ((with_reducible refine CallX.all ?_); refine CallW.of_ok (k2 _ _ (SlC.own rfl)) ?_; conv => whnf) | ((with_reducible refine CallX.all ?_); refine CallW.of_ok (noneSet_ok _) ?_; conv => whnf) | ((with_reducible refine CallX.all ?_); refine CallW.of_ok (k3 _ _ _ (by first | exact SlC.own rfl | exact mNil (by omega)) (by first | exact SlC.own rfl | exact iNil (by omega))) ?_; conv => whnf) | ((with_reducible refine CallX.all ?_); refine CallW.of_ok (k4 _) ?_; conv => whnf) | ((with_reducible refine And.intro ?hh ?_); (case hh => (unfold InR; (try dsimp only); omega)); conv => whnf) | ((with_reducible refine And.intro ?hh ?_); (case hh => ((try dsimp only); omega)); conv => whnf) | ((with_reducible refine And.intro ?hh ?_); (case hh => ((conv => whnf); (repeat' (first | exact True.intro | rfl | refine And.intro ?_ ?_)); done)); conv => whnf) | fail))
      all_goals (refine ⟨[], ?_, rfl, rfl, trivial, (by (repeat' (first | exact True.intro | rfl | refine And.intro ?_ ?_)))⟩; simp only [renV, renL]; (first | done | rfl | simp | grind))
  | false =>
    have ec : csA 10 M C [x0, x1, x2, x3, x4, x5, x6, x7, x8, x9] = (0, 18) := by unfold csA; rw [if_neg (by omega), if_neg (fun hc => hc rfl), e2, if_neg (by decide), hr, if_pos rfl]
    rw [hr] at k3
    rw [ec]
    cases q1 <;> cases q2
    all_goals
      (conv => whnf); (repeat' (first | ((with_reducible refine ifb_mk (fun hc => ?_) (fun hc => ?_)) <;> ((try simp only [decide_eq_true_eq, decide_eq_false_iff_not, Bool.not_eq_true', Bool.not_eq_false', Int.not_lt, Int.not_le, ne_eq, Decidable.not_not, beq_iff_eq, List.cons.injEq, and_true] at hc); (first | (exfalso; omega) | conv => whnf))) | ((with_reducible refine And.intro True.intro ?_); conv => whnf) | ((with_reducible refine CallX.all ?_); refine CallW.of_ok (k1 _ _ _ (by first | exact SlC.own rfl | exact mNil (by omega)) (by first | exact SlC.own rfl | exact iNil (by omega))) ?_; conv => whnf) | ((with_reducible refine CallX.all ?_); refine CallW.of_ok (k2 _ _ (SlC.own rfl)) ?_; conv => whnf) | ((with_reducible refine CallX.all ?_); refine CallW.of_ok (noneSet_ok _) ?_; conv => whnf) | ((with_reducible refine CallX.all ?_); refine CallW.of_ok (k3 _ _ _ (by first | exact SlC.own rfl | exact mNil (by omega)) (by first | exact SlC.own rfl | exact iNil (by omega))) ?_; conv => whnf) | ((with_reducible refine And.intro ?hh ?_); (case hh => (unfold InR; (try dsimp only); omega)); conv => whnf) | ((with_reducible refine And.intro ?hh ?_); (case hh => ((try dsimp only); omega)); conv => whnf) | ((with_reducible refine And.intro ?hh ?_); (case hh => ((conv => whnf); (repeat' (first | exact True.intro | rfl | refine And.intro ?_ ?_)); done)); conv => whnf) | fail))
      all_goals (refine ⟨[], ?_, rfl, rfl, trivial, (by (repeat' (first | exact True.intro | rfl | refine And.intro ?_ ?_)))⟩; simp only [renV, renL]; (first | done | rfl | simp | grind))

theorem checkSetting_ok (h : H) (n : Int) (M : List P2) (C L : List Int) (mv cv lv : V) (hM : M.length ≤ 9223372036854775807) (hC : C.length ≤ 9223372036854775807) (hL : L.length ≤ 9223372036854775807) (h1 : SlC h (mVs M) M.length mv) (h2 : SlC h (iVs C) C.length cv) (h3 : SlC h (iVs L) L.length lv) :
    CallOk Try.prog 17 [sheetV n mv cv, lv] h (.tup [.int .i64 (csA n M C L).1, .int .i64 (csA n M C L).2]) h := by
  by_cases hb : shErr n M C ≠ 0 ∨ (L.length : Int) ≠ n ∨ wi (-1) 1 L = false
  · exact checkSetting_bad h n M C L mv cv lv hM hC hL h1 h2 h3 hb
  · have e0 : shErr n M C = 0 := by omega
    have e1 : (L.length : Int) = n := by omega
    have e2 : wi (-1) 1 L = true := by cases hw : wi (-1) 1 L with | true => rfl | false => exact absurd (.inr (.inr hw)) hb
    have hn := (shErr_ok e0).nn
    subst e1
    match L, hn with
    | [x0], _ => exact checkSetting_1 h M C x0 mv cv lv hM hC h1 h2 h3 e0 e2
    | [x0, x1], _ => exact checkSetting_2 h M C x0 x1 mv cv lv hM hC h1 h2 h3 e0 e2
    | [x0, x1, x2], _ => exact checkSetting_3 h M C x0 x1 x2 mv cv lv hM hC h1 h2 h3 e0 e2
    | [x0, x1, x2, x3], _ => exact checkSetting_4 h M C x0 x1 x2 x3 mv cv lv hM hC h1 h2 h3 e0 e2
    | [x0, x1, x2, x3, x4], _ => exact checkSetting_5 h M C x0 x1 x2 x3 x4 mv cv lv hM hC h1 h2 h3 e0 e2
    | [x0, x1, x2, x3, x4, x5], _ => exact checkSetting_6 h M C x0 x1 x2 x3 x4 x5 mv cv lv hM hC h1 h2 h3 e0 e2
    | [x0, x1, x2, x3, x4, x5, x6], _ => exact checkSetting_7 h M C x0 x1 x2 x3 x4 x5 x6 mv cv lv hM hC h1 h2 h3 e0 e2
    | [x0, x1, x2, x3, x4, x5, x6, x7], _ => exact checkSetting_8 h M C x0 x1 x2 x3 x4 x5 x6 x7 mv cv lv hM hC h1 h2 h3 e0 e2
    | [x0, x1, x2, x3, x4, x5, x6, x7, x8], _ => exact checkSetting_9 h M C x0 x1 x2 x3 x4 x5 x6 x7 x8 mv cv lv hM hC h1 h2 h3 e0 e2
    | [x0, x1, x2, x3, x4, x5, x6, x7, x8, x9], _ => exact checkSetting_10 h M C x0 x1 x2 x3 x4 x5 x6 x7 x8 x9 mv cv lv hM hC h1 h2 h3 e0 e2
    | [], hn => simp at hn
    | _ :: _ :: _ :: _ :: _ :: _ :: _ :: _ :: _ :: _ :: _ :: _, hn => simp at hn; omega
end Go.Proofs.N

namespace Go.Proofs.N
open Go.As
set_option maxRecDepth 20000
set_option linter.unusedVariables false
set_option linter.unusedSimpArgs false

set_option maxHeartbeats 4000000 in
theorem refCheckSetting_ok (h : H) (n : Int) (M : List P2) (C L : List Int) (mv cv lv : V) (hM : M.length ≤ 9223372036854775807) (hC : C.length ≤ 9223372036854775807) (hL : L.length ≤ 9223372036854775807) (h1 : SlC h (mVs M) M.length mv) (h2 : SlC h (iVs C) C.length cv) (h3 : SlC h (iVs L) L.length lv) :
    CallOk Try.prog 18 [sheetV n mv cv, lv] h (.tup [.int .i64 (csA n M C L).1, .int .i64 (csA n M C L).2]) h := by
  obtain ⟨o1, s1, q1, c1, w1⟩ := h1.view 0
  obtain ⟨o2, s2, q2, c2, w2⟩ := h2.view 1
  obtain ⟨o3, s3, q3, c3, w3⟩ := h3.view 2
  refine CallOk.run Try.func18 rfl rfl (argsC := [sheetV n s1 s2, s3]) (Nat.le_of_ble_eq_true rfl) [o1, o2, o3] (.cons (CaL.agg (.cons (.bare rfl) (.cons (c1 _ rfl) (.cons (c2 _ rfl) .nil)))) (.cons (c3 _ rfl) .nil)) (viewMc3 mVs_bare w1 iVs_bare w2 iVs_bare w3) rfl (WpR.of_vc ?_)
  have hB1 := @mVs_bare M
  have hB2 := @iVs_bare C
  have hB3 := @iVs_bare L
  have k1 := fun h' m' c' h1' h2' => refCheckSheet_ok h' n M C m' c' hM hC h1' h2'
  by_cases e0 : shErr n M C = 0
  · have hS := shErr_ok e0
    have hn := hS.nn
    rw [e0] at k1
    by_cases e1 : (L.length : Int) = n
    · obtain ⟨cap3, ex3, rfl⟩ := Sv.pos q3 (by omega)
      have k3 := fun h' m' c' h1' h2' l' h3' => refIsRight_ok h' L n M C hS e1 m' c' h1' h2' l' h3'
      cases q1 <;> cases q2
      all_goals
        (conv => whnf); (repeat' (first | ((with_reducible refine ifb_mk (fun hc => ?_) (fun hc => ?_)) <;> ((try simp only [decide_eq_true_eq, decide_eq_false_iff_not, Bool.not_eq_true', Bool.not_eq_false', Int.not_lt, Int.not_le, ne_eq, Decidable.not_not, beq_iff_eq, List.cons.injEq, and_true] at hc); (first | (exfalso; omega) | conv => whnf))) | ((with_reducible refine And.intro True.intro ?_); conv => whnf) | ((with_reducible refine CallX.all ?_); refine CallW.of_ok (k1 _ _ _ (by first | exact SlC.own rfl | exact mNil (by omega)) (by first | exact SlC.own rfl | exact iNil (by omega))) ?_; conv => whnf) | ((with_reducible refine And.intro ?hh ?_); (case hh => (unfold InR; (try dsimp only); omega)); conv => whnf) | ((with_reducible refine And.intro ?hh ?_); (case hh => ((try dsimp only); omega)); conv => whnf) | ((with_reducible refine And.intro ?hh ?_); (case hh => ((conv => whnf); (repeat' (first | exact True.intro | rfl | refine And.intro ?_ ?_)); done)); conv => whnf) | fail))
        refine WpR.loopD (ι := Nat × Nat) [] [1, 2] [] [] 4 (fun p => [(7, .int .i64 p.1), (6, .int .i64 p.2)]) (fun _ => []) (fun p => L.length - p.1) (fun p => p.1 ≤ L.length ∧ p.2 ≤ p.1 ∧ wi (-1) 1 L = wi (-1) 1 (L.drop p.1) ∧ cnt L = p.2 + cnt (L.drop p.1)) ?_ ((0, 0)) (⟨Nat.zero_le _, Nat.zero_le _, rfl, by simp⟩) [] ⟨rfl, rfl, (by (repeat' (first | exact True.intro | rfl | refine And.intro ?_ ?_))), (by (repeat' (first | exact True.intro | rfl | refine And.intro ?_ ?_))), (by (repeat' (first | exact True.intro | rfl | refine And.intro ?_ ?_))), (by (repeat' (first | exact True.intro | exact Or.inl rfl | refine And.intro ?_ ?_ | refine Or.inr ⟨_, rfl, ?_⟩ | exact SubQ.same (n := 1000) (Y := []) (fun _ _ _ => rfl) (by first | exact True.intro | exact ltB_all rfl | exact ltB_ofLb (by first | exact bare0_ints | assumption | exact bVs_bare | exact iVs_bare | exact mVs_bare | (intro v hv; (repeat (rcases List.mem_cons.1 hv with rfl | hv; exact rfl)); cases hv)) | exact ltB_loop rfl rfl | exact hMap _ | exact hMap2 _ | exact grB_lt (by first | exact bare0_ints | assumption | exact bVs_bare | exact iVs_bare | exact mVs_bare | (intro v hv; (repeat (rcases List.mem_cons.1 hv with rfl | hv; exact rfl)); cases hv)) _ | exact ltB_encL | exact ltB_map0 | assumption) (avB_nil _) rfl | exact SubQ.ofL (by first | rfl | simp) (by first | exact bare0_ints | assumption | exact bVs_bare | exact iVs_bare | exact mVs_bare | (intro v hv; (repeat (rcases List.mem_cons.1 hv with rfl | hv; exact rfl)); cases hv)) (by first | exact Or.inl rfl | exact Or.inr rfl) | exact SubQ.fin (by (conv => whnf); (repeat' (first | exact True.intro | rfl | refine And.intro ?_ ?_)); done) (fun h => h) (by first | exact Or.inl rfl | exact Or.inr rfl)))), rfl, rfl⟩ rfl rfl rfl (fun _ => rfl) (by (repeat' (first | exact True.intro | refine And.intro ?_ ?_ | exact avV_nil _ | rfl))) (by (repeat' (first | exact True.intro | (with_reducible exact avB_nil _) | ((with_reducible refine avB_all ?_); rfl) | ((with_reducible refine avB_ofLb ?_); exact (by first | exact bare0_ints | assumption | exact bVs_bare | exact iVs_bare | exact mVs_bare | (intro v hv; (repeat (rcases List.mem_cons.1 hv with rfl | hv; exact rfl)); cases hv))) | ((with_reducible refine ltB_all ?_); rfl) | ((with_reducible refine ltB_ofLb ?_); exact (by first | exact bare0_ints | assumption | exact bVs_bare | exact iVs_bare | exact mVs_bare | (intro v hv; (repeat (rcases List.mem_cons.1 hv with rfl | hv; exact rfl)); cases hv))) | ((with_reducible refine ltB_loop ?_ ?_) <;> rfl) | (with_reducible exact hMap _) | (with_reducible exact hMap2 _) | (with_reducible exact ltB_encL) | (with_reducible exact ltB_map0) | ((with_reducible refine grB_lt ?_ _); exact (by first | exact bare0_ints | assumption | exact bVs_bare | exact iVs_bare | exact mVs_bare | (intro v hv; (repeat (rcases List.mem_cons.1 hv with rfl | hv; exact rfl)); cases hv))) | (with_reducible assumption) | refine And.intro ?_ ?_ | exact (by first | exact True.intro | exact ltB_all rfl | exact ltB_ofLb (by first | exact bare0_ints | assumption | exact bVs_bare | exact iVs_bare | exact mVs_bare | (intro v hv; (repeat (rcases List.mem_cons.1 hv with rfl | hv; exact rfl)); cases hv)) | exact ltB_loop rfl rfl | exact hMap _ | exact hMap2 _ | exact grB_lt (by first | exact bare0_ints | assumption | exact bVs_bare | exact iVs_bare | exact mVs_bare | (intro v hv; (repeat (rcases List.mem_cons.1 hv with rfl | hv; exact rfl)); cases hv)) _ | exact ltB_encL | exact ltB_map0 | assumption)))) (fun _ _ => (by (repeat' (first | exact True.intro | rfl | refine And.intro ?_ ?_ | exact (by decide) | exact (by first | exact True.intro | exact hMap _ | exact hMap2 _ | exact grB_lt (by first | exact bare0_ints | assumption | exact bVs_bare | exact iVs_bare | exact mVs_bare | (intro v hv; (repeat (rcases List.mem_cons.1 hv with rfl | hv; exact rfl)); cases hv)) _ | exact ltB_all rfl | exact ltB_ofLb (by first | exact bare0_ints | assumption | exact bVs_bare | exact iVs_bare | exact mVs_bare | (intro v hv; (repeat (rcases List.mem_cons.1 hv with rfl | hv; exact rfl)); cases hv)) | exact ltB_loop rfl rfl | exact ltB_encL | exact ltB_map0 | assumption))))) (fun _ _ => (by (repeat' (first | exact True.intro | rfl | refine And.intro ?_ ?_ | exact (by decide) | exact (by first | exact True.intro | exact hMap _ | exact hMap2 _ | exact grB_lt (by first | exact bare0_ints | assumption | exact bVs_bare | exact iVs_bare | exact mVs_bare | (intro v hv; (repeat (rcases List.mem_cons.1 hv with rfl | hv; exact rfl)); cases hv)) _ | exact ltB_all rfl | exact ltB_ofLb (by first | exact bare0_ints | assumption | exact bVs_bare | exact iVs_bare | exact mVs_bare | (intro v hv; (repeat (rcases List.mem_cons.1 hv with rfl | hv; exact rfl)); cases hv)) | exact ltB_loop rfl rfl | exact ltB_encL | exact ltB_map0 | assumption))))) (fun _ _ => (by (repeat' (first | exact True.intro | rfl | refine And.intro ?_ ?_)))) rfl
        rintro ⟨i, m⟩ ⟨j1, j2, j3, j4⟩
        dsimp only at j1 j2 j3 j4
        refine WpR.of_vc ?_
        cases hx : L[i]? with
        | some x =>
          have hlt := (List.getElem?_eq_some_iff.1 hx).1
          have hd : cnt (L.drop i) = (if x ≠ -1 then 1 else 0) + cnt (L.drop (i + 1)) := by
            rw [drop_at hx]
            unfold cnt
            rw [List.filter_cons]
            by_cases h1 : x = -1
            · simp [h1]
            · simp [h1]; omega
          have hw : wi (-1) 1 (L.drop i) = (decide (-1 ≤ x ∧ x ≤ 1) && wi (-1) 1 (L.drop (i + 1))) := by rw [drop_at hx]; rfl
          rw [hd] at j4
          rw [hw] at j3
          (conv => whnf); (repeat' (first | ((with_reducible refine ifb_mk (fun hc => ?_) (fun hc => ?_)) <;> ((try simp only [decide_eq_true_eq, decide_eq_false_iff_not, Bool.not_eq_true', Bool.not_eq_false', Int.not_lt, Int.not_le, ne_eq, Decidable.not_not, beq_iff_eq, List.cons.injEq, and_true] at hc); (first | (exfalso; omega) | conv => whnf))) | ((with_reducible refine And.intro True.intro ?_); conv => whnf) | ((with_reducible refine grd_get ?_); refine som_mk (a := ?_) ?hh ?_; (case hh => exact iGet hx); conv => whnf) | ((with_reducible refine And.intro ?hh ?_); (case hh => (unfold InR; (try dsimp only); omega)); conv => whnf) | ((with_reducible refine And.intro ?hh ?_); (case hh => ((try dsimp only); omega)); conv => whnf) | ((with_reducible refine And.intro ?hh ?_); (case hh => ((conv => whnf); (repeat' (first | exact True.intro | rfl | refine And.intro ?_ ?_)); done)); conv => whnf) | fail))
          all_goals first
            | (have ec : csA n M C L = (0, 3) := by unfold csA; rw [if_neg (by omega), if_neg (by omega), if_pos (by rw [j3, decide_eq_false (by omega)]; rfl)]
               rw [ec]
               (refine ⟨[], ?_, rfl, rfl, trivial, (by (repeat' (first | exact True.intro | rfl | refine And.intro ?_ ?_)))⟩; simp only [renV, renL]; (first | done | rfl | simp | grind))
               done)
            | (rw [decide_eq_true (by omega), Bool.true_and] at j3
               rw [if_pos (by omega)] at j4
               exact ⟨(i + 1, m + 1), [], by dsimp only; omega, ⟨by dsimp only; omega, by dsimp only; omega, j3, by dsimp only; omega⟩, ⟨rfl, rfl, (by (repeat' (first | exact True.intro | rfl | refine And.intro ?_ ?_))), (by (repeat' (first | exact True.intro | rfl | refine And.intro ?_ ?_))), (by (repeat' (first | exact True.intro | rfl | refine And.intro ?_ ?_))), (by (repeat' (first | exact True.intro | exact Or.inl rfl | refine And.intro ?_ ?_ | refine Or.inr ⟨_, rfl, ?_⟩ | exact SubQ.same (n := 1000) (Y := []) (fun _ _ _ => rfl) (by first | exact True.intro | exact ltB_all rfl | exact ltB_ofLb (by first | exact bare0_ints | assumption | exact bVs_bare | exact iVs_bare | exact mVs_bare | (intro v hv; (repeat (rcases List.mem_cons.1 hv with rfl | hv; exact rfl)); cases hv)) | exact ltB_loop rfl rfl | exact hMap _ | exact hMap2 _ | exact grB_lt (by first | exact bare0_ints | assumption | exact bVs_bare | exact iVs_bare | exact mVs_bare | (intro v hv; (repeat (rcases List.mem_cons.1 hv with rfl | hv; exact rfl)); cases hv)) _ | exact ltB_encL | exact ltB_map0 | assumption) (avB_nil _) rfl | exact SubQ.ofL (by first | rfl | simp) (by first | exact bare0_ints | assumption | exact bVs_bare | exact iVs_bare | exact mVs_bare | (intro v hv; (repeat (rcases List.mem_cons.1 hv with rfl | hv; exact rfl)); cases hv)) (by first | exact Or.inl rfl | exact Or.inr rfl) | exact SubQ.fin (by (conv => whnf); (repeat' (first | exact True.intro | rfl | refine And.intro ?_ ?_)); done) (fun h => h) (by first | exact Or.inl rfl | exact Or.inr rfl)))), rfl, rfl⟩⟩)
            | (rw [decide_eq_true (by omega), Bool.true_and] at j3
               rw [if_neg (by omega)] at j4
               exact ⟨(i + 1, m), [], by dsimp only; omega, ⟨by dsimp only; omega, by dsimp only; omega, j3, by dsimp only; omega⟩, ⟨rfl, rfl, (by (repeat' (first | exact True.intro | rfl | refine And.intro ?_ ?_))), (by (repeat' (first | exact True.intro | rfl | refine And.intro ?_ ?_))), (by (repeat' (first | exact True.intro | rfl | refine And.intro ?_ ?_))), (by (repeat' (first | exact True.intro | exact Or.inl rfl | refine And.intro ?_ ?_ | refine Or.inr ⟨_, rfl, ?_⟩ | exact SubQ.same (n := 1000) (Y := []) (fun _ _ _ => rfl) (by first | exact True.intro | exact ltB_all rfl | exact ltB_ofLb (by first | exact bare0_ints | assumption | exact bVs_bare | exact iVs_bare | exact mVs_bare | (intro v hv; (repeat (rcases List.mem_cons.1 hv with rfl | hv; exact rfl)); cases hv)) | exact ltB_loop rfl rfl | exact hMap _ | exact hMap2 _ | exact grB_lt (by first | exact bare0_ints | assumption | exact bVs_bare | exact iVs_bare | exact mVs_bare | (intro v hv; (repeat (rcases List.mem_cons.1 hv with rfl | hv; exact rfl)); cases hv)) _ | exact ltB_encL | exact ltB_map0 | assumption) (avB_nil _) rfl | exact SubQ.ofL (by first | rfl | simp) (by first | exact bare0_ints | assumption | exact bVs_bare | exact iVs_bare | exact mVs_bare | (intro v hv; (repeat (rcases List.mem_cons.1 hv with rfl | hv; exact rfl)); cases hv)) (by first | exact Or.inl rfl | exact Or.inr rfl) | exact SubQ.fin (by (conv => whnf); (repeat' (first | exact True.intro | rfl | refine And.intro ?_ ?_)); done) (fun h => h) (by first | exact Or.inl rfl | exact Or.inr rfl)))), rfl, rfl⟩⟩)
        | none =>
          have hlen : L.length ≤ i := by simpa using hx
          rw [List.drop_eq_nil_of_le hlen] at j3 j4
          have hwi : wi (-1) 1 L = true := j3
          have hcn : cnt L = m := by rw [j4]; unfold cnt; simp
          cases hr : rightB L M C with
          | true =>
            have ec : csA n M C L = (cnt L, 0) := by unfold csA; rw [if_neg (by omega), if_neg (by omega), hwi, if_neg (by decide), hr, if_neg (by decide)]
            rw [hr] at k3
            rw [ec, hcn]
            (conv => whnf); (repeat' (first | ((with_reducible refine ifb_mk (fun hc => ?_) (fun hc => ?_)) <;> ((try simp only [decide_eq_true_eq, decide_eq_false_iff_not, Bool.not_eq_true', Bool.not_eq_false', Int.not_lt, Int.not_le, ne_eq, Decidable.not_not, beq_iff_eq, List.cons.injEq, and_true] at hc); (first | (exfalso; omega) | conv => whnf))) | ((with_reducible refine And.intro True.intro ?_); conv => whnf) | ((with_reducible refine CallX.all ?_); refine CallW.of_ok (k3 _ _ _ (by first | exact SlC.own rfl | exact mNil (by omega)) (by first | exact SlC.own rfl | exact iNil (by omega)) _ (SlC.own rfl)) ?_; conv => whnf) | ((with_reducible refine And.intro ?hh ?_); (case hh => (unfold InR; (try dsimp only); omega)); conv => whnf) | ((with_reducible refine And.intro ?hh ?_); (case hh => ((try dsimp only); omega)); conv => whnf) | ((with_reducible refine And.intro ?hh ?_); (case hh => ((conv => whnf); (repeat' (first | exact True.intro | rfl | refine And.intro ?_ ?_)); done)); conv => whnf) | fail))
            (refine ⟨[], ?_, rfl, rfl, trivial, (by (repeat' (first | exact True.intro | rfl | refine And.intro ?_ ?_)))⟩; simp only [renV, renL]; (first | done | rfl | simp | grind))
          | false =>
            have ec : csA n M C L = (0, 18) := by unfold csA; rw [if_neg (by omega), if_neg (by omega), hwi, if_neg (by decide), hr, if_pos rfl]
            rw [hr] at k3
            rw [ec]
            (conv => whnf); (repeat' (first | ((with_reducible refine ifb_mk (fun hc => ?_) (fun hc => ?_)) <;> ((try simp only [decide_eq_true_eq, decide_eq_false_iff_not, Bool.not_eq_true', Bool.not_eq_false', Int.not_lt, Int.not_le, ne_eq, Decidable.not_not, beq_iff_eq, List.cons.injEq, and_true] at hc); (first | (exfalso; omega) | conv => whnf))) | ((with_reducible refine And.intro True.intro ?_); conv => whnf) | ((with_reducible refine CallX.all ?_); refine CallW.of_ok (k3 _ _ _ (by first | exact SlC.own rfl | exact mNil (by omega)) (by first | exact SlC.own rfl | exact iNil (by omega)) _ (SlC.own rfl)) ?_; conv => whnf) | ((with_reducible refine And.intro ?hh ?_); (case hh => (unfold InR; (try dsimp only); omega)); conv => whnf) | ((with_reducible refine And.intro ?hh ?_); (case hh => ((try dsimp only); omega)); conv => whnf) | ((with_reducible refine And.intro ?hh ?_); (case hh => ((conv => whnf); (repeat' (first | exact True.intro | rfl | refine And.intro ?_ ?_)); done)); conv => whnf) | fail))
            (refine ⟨[], ?_, rfl, rfl, trivial, (by (repeat' (first | exact True.intro | rfl | refine And.intro ?_ ?_)))⟩; simp only [renV, renL]; (first | done | rfl | simp | grind))
    · have ec : csA n M C L = (0, 15) := by unfold csA; rw [if_neg (by omega), if_pos e1]
      rw [ec]
      cases q1 <;> cases q2 <;> cases q3
      all_goals
        (conv => whnf); (repeat' (first | ((with_reducible refine ifb_mk (fun hc => ?_) (fun hc => ?_)) <;> ((try simp only [decide_eq_true_eq, decide_eq_false_iff_not, Bool.not_eq_true', Bool.not_eq_false', Int.not_lt, Int.not_le, ne_eq, Decidable.not_not, beq_iff_eq, List.cons.injEq, and_true] at hc); (first | (exfalso; omega) | conv => whnf))) | ((with_reducible refine And.intro True.intro ?_); conv => whnf) | ((with_reducible refine CallX.all ?_); refine CallW.of_ok (k1 _ _ _ (by first | exact SlC.own rfl | exact mNil (by omega)) (by first | exact SlC.own rfl | exact iNil (by omega))) ?_; conv => whnf) | ((with_reducible refine And.intro ?hh ?_); (case hh => (unfold InR; (try dsimp only); omega)); conv => whnf) | ((with_reducible refine And.intro ?hh ?_); (case hh => ((try dsimp only); omega)); conv => whnf) | ((with_reducible refine And.intro ?hh ?_); (case hh => ((conv => whnf); (repeat' (first | exact True.intro | rfl | refine And.intro ?_ ?_)); done)); conv => whnf) | fail))
        all_goals (first | (exfalso; omega) | (refine ⟨[], ?_, rfl, rfl, trivial, (by (repeat' (first | exact True.intro | rfl | refine And.intro ?_ ?_)))⟩; simp only [renV, renL]; (first | done | rfl | simp | grind)))
  · have ec : csA n M C L = (0, shErr n M C) := by unfold csA; rw [if_pos e0]
    rw [ec]
    generalize shErr n M C = er at *
    cases q1 <;> cases q2 <;> cases q3
    all_goals
      (conv => whnf); (repeat' (first | ((with_reducible refine ifb_mk (fun hc => ?_) (fun hc => ?_)) <;> ((try simp only [decide_eq_true_eq, decide_eq_false_iff_not, Bool.not_eq_true', Bool.not_eq_false', Int.not_lt, Int.not_le, ne_eq, Decidable.not_not, beq_iff_eq, List.cons.injEq, and_true] at hc); (first | (exfalso; omega) | conv => whnf))) | ((with_reducible refine And.intro True.intro ?_); conv => whnf) | ((with_reducible refine CallX.all ?_); refine CallW.of_ok (k1 _ _ _ (by first | exact SlC.own rfl | exact mNil (by omega)) (by first | exact SlC.own rfl | exact iNil (by omega))) ?_; conv => whnf) | ((with_reducible refine And.intro ?hh ?_); (case hh => (unfold InR; (try dsimp only); omega)); conv => whnf) | ((with_reducible refine And.intro ?hh ?_); (case hh => ((try dsimp only); omega)); conv => whnf) | ((with_reducible refine And.intro ?hh ?_); (case hh => ((conv => whnf); (repeat' (first | exact True.intro | rfl | refine And.intro ?_ ?_)); done)); conv => whnf) | fail))
      all_goals (first | (exfalso; omega) | (refine ⟨[], ?_, rfl, rfl, trivial, (by (repeat' (first | exact True.intro | rfl | refine And.intro ?_ ?_)))⟩; simp only [renV, renL]; (first | done | rfl | simp | grind)))
end Go.Proofs.N

namespace Go.Proofs.N
open Go.As
set_option maxRecDepth 20000
set_option linter.unusedVariables false
set_option linter.unusedSimpArgs false

theorem great_ok (h : H) (n : Int) (M : List P2) (C : List Int) (mv cv : V) (hM : M.length ≤ 9223372036854775807) (hC : C.length ≤ 9223372036854775807) (h1 : SlC h (mVs M) M.length mv) (h2 : SlC h (iVs C) C.length cv) :
    CallOk Try.prog 15 [sheetV n mv cv] h (.bool (decide ((50 : Int) < M.length ∨ (30 : Int) < C.length))) h := by
  obtain ⟨o1, s1, q1, c1, w1⟩ := h1.view 0
  obtain ⟨o2, s2, q2, c2, w2⟩ := h2.view 1
  refine CallOk.run Try.func15 rfl rfl (argsC := [sheetV n s1 s2]) (Nat.le_of_ble_eq_true rfl) [o1, o2] (.cons (CaL.agg (.cons (.bare rfl) (.cons (c1 _ rfl) (.cons (c2 _ rfl) .nil)))) .nil) (viewMc2 mVs_bare w1 iVs_bare w2) rfl (WpR.of_vc ?_)
  have hB1 := @mVs_bare M
  have hB2 := @iVs_bare C
  cases q1 <;> cases q2
  all_goals
    (conv => whnf); (repeat' (first | ((with_reducible refine ifb_mk (fun hc => ?_) (fun hc => ?_)) <;> ((try simp only [decide_eq_true_eq, decide_eq_false_iff_not, Bool.not_eq_true', Bool.not_eq_false', Int.not_lt, Int.not_le, ne_eq, Decidable.not_not, beq_iff_eq, List.cons.injEq, and_true] at hc); (first | (exfalso; omega) | conv => whnf))) | ((with_reducible refine And.intro True.intro ?_); conv => whnf) | ((with_reducible refine And.intro ?hh ?_); (case hh => (unfold InR; (try dsimp only); omega)); conv => whnf) | ((with_reducible refine And.intro ?hh ?_); (case hh => ((try dsimp only); omega)); conv => whnf) | ((with_reducible refine And.intro ?hh ?_); (case hh => ((conv => whnf); (repeat' (first | exact True.intro | rfl | refine And.intro ?_ ?_)); done)); conv => whnf) | fail))
    all_goals (first | ((refine ⟨[], ?_, rfl, rfl, trivial, (by (repeat' (first | exact True.intro | rfl | refine And.intro ?_ ?_)))⟩; simp only [renV, renL]; rw [decide_eq_true (by omega)]); done) | ((refine ⟨[], ?_, rfl, rfl, trivial, (by (repeat' (first | exact True.intro | rfl | refine And.intro ?_ ?_)))⟩; simp only [renV, renL]; rw [decide_eq_false (by omega)]); done) | ((refine ⟨[], ?_, rfl, rfl, trivial, (by (repeat' (first | exact True.intro | rfl | refine And.intro ?_ ?_)))⟩; simp only [renV, renL]; congr 1; exact decide_eq_decide.2 (by omega)); done))

set_option maxHeartbeats 4000000 in
theorem nameSheets_ok (hw : ∀ h, CallOk Try.prog 16 [] h (.bool true) h) (h : H) (n : Int) (M : List P2) (C L : List Int) (mv cv lv : V) (hM : M.length ≤ 9223372036854775807) (hC : C.length ≤ 9223372036854775807) (hL : L.length ≤ 9223372036854775807) (h1 : SlC h (mVs M) M.length mv) (h2 : SlC h (iVs C) C.length cv) (h3 : SlC h (iVs L) L.length lv) :
    CallOk Try.prog 3 [sheetV n mv cv, lv] h (.bool true) h := by
  obtain ⟨o1, s1, q1, c1, w1⟩ := h1.view 0
  obtain ⟨o2, s2, q2, c2, w2⟩ := h2.view 1
  obtain ⟨o3, s3, q3, c3, w3⟩ := h3.view 2
  refine CallOk.run Try.func3 rfl rfl (argsC := [sheetV n s1 s2, s3]) (Nat.le_of_ble_eq_true rfl) [o1, o2, o3] (.cons (CaL.agg (.cons (.bare rfl) (.cons (c1 _ rfl) (.cons (c2 _ rfl) .nil)))) (.cons (c3 _ rfl) .nil)) (viewMc3 mVs_bare w1 iVs_bare w2 iVs_bare w3) rfl (WpR.of_vc ?_)
  have hB1 := @mVs_bare M
  have hB2 := @iVs_bare C
  have hB3 := @iVs_bare L
  have k0 := fun h' m' c' h1' h2' => great_ok h' n M C m' c' hM hC h1' h2'
  have k1 := fun h' m' c' l' h1' h2' h3' => checkSetting_ok h' n M C L m' c' l' hM hC hL h1' h2' h3'
  have k2 := fun h' m' c' l' h1' h2' h3' => refCheckSetting_ok h' n M C L m' c' l' hM hC hL h1' h2' h3'
  have k3 := fun h' m' c' h1' h2' => checkSheet_ok h' n M C m' c' hM hC h1' h2'
  have k4 := fun h' m' c' h1' h2' => refCheckSheet_ok h' n M C m' c' hM hC h1' h2'
  generalize csA n M C L = A at k1 k2
  generalize shErr n M C = er at k3 k4
  by_cases hg : (50 : Int) < M.length ∨ (30 : Int) < C.length
  · rw [decide_eq_true hg] at k0
    cases q1 <;> cases q2 <;> cases q3
    all_goals
      (conv => whnf); (repeat' (first | ((with_reducible refine ifb_mk (fun hc => ?_) (fun hc => ?_)) <;> ((try simp only [decide_eq_true_eq, decide_eq_false_iff_not, Bool.not_eq_true', Bool.not_eq_false', Int.not_lt, Int.not_le, ne_eq, Decidable.not_not, beq_iff_eq, List.cons.injEq, and_true] at hc); (first | (exfalso; omega) | conv => whnf))) | ((with_reducible refine And.intro True.intro ?_); conv => whnf) | ((with_reducible refine CallX.all ?_); refine CallW.of_ok (k0 _ _ _ (by first | exact SlC.own rfl | exact mNil (by omega)) (by first | exact SlC.own rfl | exact iNil (by omega))) ?_; conv => whnf) | ((with_reducible refine CallX.all ?_); refine CallW.of_ok (hw _) ?_; conv => whnf) | ((with_reducible refine And.intro ?hh ?_); (case hh => (unfold InR; (try dsimp only); omega)); conv => whnf) | ((with_reducible refine And.intro ?hh ?_); (case hh => ((try dsimp only); omega)); conv => whnf) | ((with_reducible refine And.intro ?hh ?_); (case hh => ((conv => whnf); (repeat' (first | exact True.intro | rfl | refine And.intro ?_ ?_)); done)); conv => whnf) | fail))
      all_goals (first | (exfalso; omega) | (refine ⟨[], ?_, rfl, rfl, trivial, (by (repeat' (first | exact True.intro | rfl | refine And.intro ?_ ?_)))⟩; simp only [renV, renL]; (first | done | rfl | simp | grind)))
  · rw [decide_eq_false hg] at k0
    cases q1 <;> cases q2 <;> cases q3
    all_goals
      (conv => whnf); (repeat' (first | ((with_reducible refine ifb_mk (fun hc => ?_) (fun hc => ?_)) <;> ((try simp only [decide_eq_true_eq, decide_eq_false_iff_not, Bool.not_eq_true', Bool.not_eq_false', Int.not_lt, Int.not_le, ne_eq, Decidable.not_not, beq_iff_eq, List.cons.injEq, and_true] at hc); (first | (exfalso; omega) | conv => whnf))) | ((with_reducible refine And.intro True.intro ?_); conv => whnf) | ((with_reducible refine CallX.all ?_); refine CallW.of_ok (k0 _ _ _ (by first | exact SlC.own rfl | exact mNil (by omega)) (by first | exact SlC.own rfl | exact iNil (by omega))) ?_; conv => whnf) | ((with_reducible refine CallX.all ?_); refine CallW.of_ok (hw _) ?_; conv => whnf) | ((with_reducible refine CallX.all ?_); refine CallW.of_ok (k1 _ _ _ _ (by first | exact SlC.own rfl | exact mNil (by omega)) (by first | exact SlC.own rfl | exact iNil (by omega)) (by first | exact SlC.own rfl | exact iNil (by omega))) ?_; conv => whnf) | ((with_reducible refine CallX.all ?_); refine CallW.of_ok (k2 _ _ _ _ (by first | exact SlC.own rfl | exact mNil (by omega)) (by first | exact SlC.own rfl | exact iNil (by omega)) (by first | exact SlC.own rfl | exact iNil (by omega))) ?_; conv => whnf) | ((with_reducible refine WpR.draw (id := 5) mixed [0, 2, 1, 3, 4, 5, 6, 7, 8, 9, 10, 11, 12, 13, 14, 15, 16, 17, 18] [0, 1, 0, 7, 15, 31, 63, 63, 255, 511, 1023, 2047, 2047, 8191, 16383, 32767, 65535, 131071, 262143] ?hh ?_); (case hh => kernel_rfl); conv => whnf) | ((with_reducible refine grd_ex ?_); refine ex_ok (k3 _ _ _ (by first | exact SlC.own rfl | exact mNil (by omega)) (by first | exact SlC.own rfl | exact iNil (by omega))) ?_; conv => whnf) | ((with_reducible refine grd_ex ?_); refine ex_ok (k4 _ _ _ (by first | exact SlC.own rfl | exact mNil (by omega)) (by first | exact SlC.own rfl | exact iNil (by omega))) ?_; conv => whnf) | ((with_reducible refine grd_ex ?_); refine ex_ok (hw _) ?_; conv => whnf) | ((with_reducible refine And.intro ?hh ?_); (case hh => (unfold InR; (try dsimp only); omega)); conv => whnf) | ((with_reducible refine And.intro ?hh ?_); (case hh => ((try dsimp only); omega)); conv => whnf) | ((with_reducible refine And.intro ?hh ?_); (case hh => ((conv => whnf); (repeat' (first | exact True.intro | rfl | refine And.intro ?_ ?_)); done)); conv => whnf) | fail))
      all_goals (first | (exfalso; exact hc trivial) | (exfalso; exact hc rfl) | (exfalso; omega) | (refine ⟨[], ?_, rfl, rfl, trivial, (by (repeat' (first | exact True.intro | rfl | refine And.intro ?_ ?_)))⟩; simp only [renV, renL]; (first | done | rfl | simp | grind)))
end Go.Proofs.N

