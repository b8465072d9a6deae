/- What the functions answer that the laws call, one after another (Wk). -/
import Derived.Test.YtlnihnneigdaeaaAs6
import Derived.Test.YtlnihnneigdaeaaBase

set_option linter.unusedVariables false
namespace Go.Proofs.U
open Go.As
set_option maxRecDepth 20000
set_option linter.unusedVariables false
set_option linter.unusedSimpArgs false

/-! ### A map of strikes -/

abbrev P2 := Int × Int
/-- a strike, the star that is there, when it came -/
abbrev Q := P2 × Int × Nat
def enc (q : Q) : Value × V × Nat := (key2 q.1, .int .i64 q.2.1, q.2.2)
def encL (L : List Q) : List (Value × V × Nat) := L.map enc
theorem keysPair : KeysOk Try.prog 116 key2 := keysOk_two (fs := _) rfl (by kernel_rfl) (by kernel_rfl) rfl
theorem encL_keys (L : List Q) : (encL L).map (·.1) = (L.map (·.1)).map key2 := by unfold encL enc; simp [List.map_map]
theorem findQ (em : Bool) (L : List Q) (p : P2) : findAt Try.prog em 116 (key2 p) (encL L) = some ((L.map (·.1)).findIdx? fun a => decide (p = a)) :=
  findAt_ok keysPair em p (L.map (·.1)) (encL_keys L)
theorem ltB_encL {n clock : Nat} {L : List Q} : ltB n (.map (encL L) clock) := by
  intro e he
  obtain ⟨x, _, rfl⟩ := List.mem_map.1 he
  rfl
theorem left_mem {L : List Q} {seen : List Nat} {e : Value × V × Nat} (h : e ∈ leftL (encL L) seen) : ∃ q ∈ L, e = enc q ∧ q.2.2 ∉ seen := by
  unfold leftL encL at h
  obtain ⟨h1, h2⟩ := List.mem_filter.1 h
  obtain ⟨q, hq, rfl⟩ := List.mem_map.1 h1
  exact ⟨q, hq, rfl, by simpa [enc] using h2⟩
theorem left_some {L : List Q} {seen : List Nat} {q : Q} (hq : q ∈ L) (hs : q.2.2 ∉ seen) : leftL (encL L) seen ≠ [] := by
  intro h
  have h2 : enc q ∈ leftL (encL L) seen := List.mem_filter.2 ⟨List.mem_map.2 ⟨q, hq, rfl⟩, by simpa [enc] using hs⟩
  rw [h] at h2
  cases h2
theorem find_stamp : ∀ {L : List Q} {q : Q}, q ∈ L → (∀ a ∈ L, a.2.2 = q.2.2 → a = q) → (encL L).find? (fun e => Nat.beq e.2.2 q.2.2) = some (enc q)
  | a :: L, q, hq, hu => by
    show List.find? _ (enc a :: encL L) = _
    rw [List.find?_cons]
    by_cases h : a.2.2 = q.2.2
    · have := hu a (List.mem_cons_self ..) h
      subst this
      have : Nat.beq (enc a).2.2 a.2.2 = true := Nat.beq_refl _
      rw [this]
    · have hb : Nat.beq (enc a).2.2 q.2.2 = false := by rw [Bool.eq_false_iff]; intro hc; exact h (Nat.eq_of_beq_eq_true hc)
      rw [hb]
      rcases List.mem_cons.1 hq with rfl | hq
      · exact absurd rfl h
      · exact find_stamp hq fun b hb => hu b (List.mem_cons_of_mem _ hb)
theorem find_key : ∀ {L : List Q} {q : Q}, q ∈ L → (∀ a ∈ L, a.1 = q.1 → a = q) → ∃ j, (L.map (·.1)).findIdx? (fun a => decide (q.1 = a)) = some j ∧ (encL L)[j]? = some (enc q)
  | a :: L, q, hq, hu => by
    rw [List.map_cons, List.findIdx?_cons]
    by_cases h : q.1 = a.1
    · have := hu a (List.mem_cons_self ..) h.symm
      subst this
      exact ⟨0, by simp, rfl⟩
    · rcases List.mem_cons.1 hq with rfl | hq
      · exact absurd rfl h
      · obtain ⟨j, h1, h2⟩ := find_key hq fun b hb => hu b (List.mem_cons_of_mem _ hb)
        exact ⟨j + 1, by rw [decide_eq_false h, h1]; rfl, h2⟩
def msr (L : List Q) (seen : List Nat) : Nat := (L.filter fun q => !seen.contains q.2.2).length
theorem filter_lt {α : Type} {p p' : α → Bool} (hpp : ∀ a, p' a = true → p a = true) : ∀ {l : List α} {x : α}, x ∈ l → p x = true → p' x = false → (l.filter p').length < (l.filter p).length
  | a :: l, x, hx, h1, h2 => by
    have hle : ∀ l : List α, (l.filter p').length ≤ (l.filter p).length := fun l => by
      induction l with
      | nil => exact Nat.le_refl _
      | cons b l ih =>
        by_cases hb : p' b = true
        · rw [List.filter_cons_of_pos hb, List.filter_cons_of_pos (hpp b hb)]; simp; exact ih
        · rw [List.filter_cons_of_neg hb]
          by_cases hc : p b = true
          · rw [List.filter_cons_of_pos hc]; simp; omega
          · rw [List.filter_cons_of_neg hc]; exact ih
    rcases List.mem_cons.1 hx with rfl | hx
    · rw [List.filter_cons_of_pos h1, List.filter_cons_of_neg (by rw [h2]; decide)]
      have := hle l
      simp; omega
    · have ih := filter_lt hpp hx h1 h2
      by_cases hb : p' a = true
      · rw [List.filter_cons_of_pos hb, List.filter_cons_of_pos (hpp a hb)]; simp; exact ih
      · rw [List.filter_cons_of_neg hb]
        by_cases hc : p a = true
        · rw [List.filter_cons_of_pos hc]; simp; omega
        · rw [List.filter_cons_of_neg hc]; exact ih
theorem msr_lt {L : List Q} {seen : List Nat} {q : Q} (hq : q ∈ L) (hs : q.2.2 ∉ seen) : msr L (seen ++ [q.2.2]) < msr L seen :=
  filter_lt (fun a ha => by
    simp only [Bool.not_eq_true', List.contains_eq_mem, List.mem_append, decide_eq_false_iff_not, not_or] at ha ⊢
    exact ha.1) hq (by simpa using hs) (by simp)
theorem last_snoc {α : Type} (l : List α) (x : α) : (l ++ [x]).getLast? = some x := by simp

set_option maxHeartbeats 8000000 in
/-- The strike at which a star is, found in whatever order. -/
theorem firstStrike_ok (h : H) (b0 b1 o1 b2 o2 mb : Nat) (star : Int) (L : List Q) (clock : Nat) (q0 : Q) {c0 c1 c2 : Tr V} {w0 w1 w2 : Bool} {g0 g1 g2 : Option (Nat × Nat)}
    (h0 : h.get b0 = some (.cells c0 w0 g0)) (h0' : c0.get 0 = some (.map mb)) (h1 : h.get b1 = some (.cells c1 w1 g1)) (h1' : c1.get (o1 + 3) = some (.map mb)) (h2 : h.get b2 = some (.cells c2 w2 g2)) (h2' : c2.get o2 = some (.int .i64 star))
    (hm : h.get mb = some (.map (encL L) clock)) (hb : ∀ q ∈ L, q.2.2 < clock) (hk : ∀ q ∈ L, ∀ a ∈ L, a.1 = q.1 → a = q) (hs : ∀ q ∈ L, ∀ a ∈ L, a.2.2 = q.2.2 → a = q) (hq0 : q0 ∈ L) (hs0 : q0.2.1 = star) (hu : ∀ q ∈ L, q.2.1 = star → q = q0) :
    CallOk Try.prog 93 [.fn 103 [] [.ptr b0 0], .fn 95 [] [.ptr b1 o1, .ptr b2 o2]] h (.tup [.agg [.int .i64 q0.1.1, .int .i64 q0.1.2], .bool true]) h := by
  have hview : ViewM h [some (b0, 0), some (b1, o1), some (b2, o2), some (mb, 0)] [.cells (ofL [.map 3] 0) false none, .cells (Tr.set .leaf 3 (.map 3)) false none, .cells (ofL [.int .i64 star] 0) false none, .map (encL L) clock] := by
    refine viewM_of ⟨?_, ?_, ?_, ?_, trivial⟩ (fun k k' j o o' hk hk' hmp => ?_)
    · refine ⟨⟨rfl, rfl⟩, fun j o hj => ?_⟩
      cases hj
      refine ⟨_, _, _, h0, fun i d hd => ?_⟩
      rw [get_ofL, if_pos (Nat.zero_le _), Nat.sub_zero] at hd
      match i with
      | 0 => simp at hd; subst hd; exact ⟨rfl, _, h0', .map rfl⟩
      | i + 1 => simp at hd
    · refine ⟨⟨rfl, rfl⟩, fun j o hj => ?_⟩
      cases hj
      refine ⟨_, _, _, h1, fun i d hd => ?_⟩
      rw [Tr.get_set] at hd
      by_cases hi : i = 3
      · rw [if_pos hi] at hd; cases hd; subst hi; exact ⟨rfl, _, h1', .map rfl⟩
      · rw [if_neg hi, Tr.get_leaf] at hd; cases hd
    · refine ⟨⟨rfl, rfl⟩, fun j o hj => ?_⟩
      cases hj
      refine ⟨_, _, _, h2, fun i d hd => ?_⟩
      rw [get_ofL, if_pos (Nat.zero_le _), Nat.sub_zero] at hd
      match i with
      | 0 => simp at hd; subst hd; exact ⟨rfl, _, h2', .bare rfl⟩
      | i + 1 => simp at hd
    · intro j o hj
      cases hj
      exact ⟨rfl, hm, fun e he => by obtain ⟨x, _, rfl⟩ := List.mem_map.1 he; rfl⟩
    · obtain ⟨es, c, hg⟩ := hmp
      have key : ∀ k o, ([some (b0, 0), some (b1, o1), some (b2, o2), some (mb, 0)] : Vw)[k]? = some (some (j, o)) → k = 3 := by
        intro k o hk
        match k with
        | 0 => simp at hk; rw [hk.1] at h0; rw [h0] at hg; cases hg
        | 1 => simp at hk; rw [hk.1] at h1; rw [h1] at hg; cases hg
        | 2 => simp at hk; rw [hk.1] at h2; rw [h2] at hg; cases hg
        | 3 => rfl
        | k + 4 => simp at hk
      rw [key k o hk, key k' o' hk']
  refine CallOk.run Try.func93 rfl rfl (argsC := [.fn 103 [] [.ptr 0 0], .fn 95 [] [.ptr 1 0, .ptr 2 0]]) (Nat.le_of_ble_eq_true rfl) _
    (.cons (CaL.fn .nil (.cons (.ptr (o := 0) (i := 0) rfl) .nil)) (.cons (CaL.fn .nil (.cons (.ptr (i := 0) rfl) (.cons (.ptr (i := 0) rfl) .nil))) .nil)) hview rfl (WpR.of_vc ?_)
  (conv => whnf); (repeat' (first | ((with_reducible refine ifb_mk (fun hc => ?_) (fun hc => ?_)) <;> ((try simp only [decide_eq_true_eq, decide_eq_false_iff_not, Bool.not_eq_true', Bool.not_eq_false', Int.not_lt, Int.not_le, ne_eq, Decidable.not_not, beq_iff_eq, List.cons.injEq, and_true] at hc); (first | (exfalso; omega) | exact absurd True.intro hc | conv => whnf))) | ((with_reducible refine And.intro True.intro ?_); conv => whnf) | ((with_reducible refine RangeX.all ?_); conv => whnf) | ((with_reducible refine CallW.inline (f := 103) Try.func103 rfl rfl (Nat.le_of_ble_eq_true rfl) (WpR.of_vc ?_)); conv => whnf) | ((with_reducible refine And.intro ?hh ?_); (case hh => (unfold InR; (try dsimp only); omega)); conv => whnf) | ((with_reducible refine And.intro ?hh ?_); (case hh => ((try dsimp only); omega)); conv => whnf) | ((with_reducible refine And.intro ?hh ?_); (case hh => ((conv => whnf); (repeat' (first | exact True.intro | rfl | refine And.intro ?_ ?_)); done)); conv => whnf) | fail))
  have hMap : ∀ (k : Nat) (c : Nat), ltB k (.map (encL L) c) := fun k c => ltB_encL
  have hMap2 : ∀ seen : List Nat, ltB 10 (.iter 3 clock seen clock) := fun seen => by show 3 < 10; decide
  have hM2 : ltB 10 (.map (encL L) clock) := ltB_encL
  refine WpR.loopD (ι := List Nat) [] [0] [9] [] 10 (fun _ => [(5, .ptr 9 0)]) (fun seen => [(9, .iter 3 clock seen clock)]) (fun seen => msr L seen) (fun seen => q0.2.2 ∉ seen) ?_ ([]) ((by simp)) [] ⟨rfl, rfl, (by (repeat' (first | exact True.intro | rfl | refine And.intro ?_ ?_))), (by (repeat' (first | exact True.intro | rfl | refine And.intro ?_ ?_))), (by (repeat' (first | exact True.intro | rfl | refine And.intro ?_ ?_))), ⟨.inr ⟨_, rfl, .iter⟩, trivial⟩, rfl, rfl⟩ rfl rfl rfl (fun _ => rfl) (by (repeat' (first | exact True.intro | refine And.intro ?_ ?_ | exact avV_nil _ | rfl))) (by (repeat' (first | exact True.intro | (with_reducible exact avB_nil _) | ((with_reducible refine avB_all ?_); rfl) | ((with_reducible refine avB_ofLb ?_); exact (by first | exact bare0_ints | assumption | exact bVs_bare | exact iVs_bare | exact mVs_bare | (intro v hv; (repeat (rcases List.mem_cons.1 hv with rfl | hv; exact rfl)); cases hv))) | ((with_reducible refine ltB_all ?_); rfl) | ((with_reducible refine ltB_ofLb ?_); exact (by first | exact bare0_ints | assumption | exact bVs_bare | exact iVs_bare | exact mVs_bare | (intro v hv; (repeat (rcases List.mem_cons.1 hv with rfl | hv; exact rfl)); cases hv))) | ((with_reducible refine ltB_loop ?_ ?_) <;> rfl) | (with_reducible exact hMap _) | (with_reducible exact hMap2 _) | (with_reducible exact ltB_encL) | (with_reducible exact ltB_map0) | ((with_reducible refine grB_lt ?_ _); exact (by first | exact bare0_ints | assumption | exact bVs_bare | exact iVs_bare | exact mVs_bare | (intro v hv; (repeat (rcases List.mem_cons.1 hv with rfl | hv; exact rfl)); cases hv))) | (with_reducible assumption) | refine And.intro ?_ ?_ | exact (by first | exact True.intro | exact ltB_all rfl | exact ltB_ofLb (by first | exact bare0_ints | assumption | exact bVs_bare | exact iVs_bare | exact mVs_bare | (intro v hv; (repeat (rcases List.mem_cons.1 hv with rfl | hv; exact rfl)); cases hv)) | exact ltB_loop rfl rfl | exact hMap _ | exact hMap2 _ | exact grB_lt (by first | exact bare0_ints | assumption | exact bVs_bare | exact iVs_bare | exact mVs_bare | (intro v hv; (repeat (rcases List.mem_cons.1 hv with rfl | hv; exact rfl)); cases hv)) _ | exact ltB_encL | exact ltB_map0 | assumption)))) (fun _ _ => (by (repeat' (first | exact True.intro | rfl | refine And.intro ?_ ?_ | exact (by decide) | exact (by first | exact True.intro | exact hMap _ | exact hMap2 _ | exact grB_lt (by first | exact bare0_ints | assumption | exact bVs_bare | exact iVs_bare | exact mVs_bare | (intro v hv; (repeat (rcases List.mem_cons.1 hv with rfl | hv; exact rfl)); cases hv)) _ | exact ltB_all rfl | exact ltB_ofLb (by first | exact bare0_ints | assumption | exact bVs_bare | exact iVs_bare | exact mVs_bare | (intro v hv; (repeat (rcases List.mem_cons.1 hv with rfl | hv; exact rfl)); cases hv)) | exact ltB_loop rfl rfl | exact ltB_encL | exact ltB_map0 | assumption))))) (fun _ _ => (by (repeat' (first | exact True.intro | rfl | refine And.intro ?_ ?_ | exact (by decide) | exact (by first | exact True.intro | exact hMap _ | exact hMap2 _ | exact grB_lt (by first | exact bare0_ints | assumption | exact bVs_bare | exact iVs_bare | exact mVs_bare | (intro v hv; (repeat (rcases List.mem_cons.1 hv with rfl | hv; exact rfl)); cases hv)) _ | exact ltB_all rfl | exact ltB_ofLb (by first | exact bare0_ints | assumption | exact bVs_bare | exact iVs_bare | exact mVs_bare | (intro v hv; (repeat (rcases List.mem_cons.1 hv with rfl | hv; exact rfl)); cases hv)) | exact ltB_loop rfl rfl | exact ltB_encL | exact ltB_map0 | assumption))))) (fun _ _ => (by (repeat' (first | exact True.intro | rfl | refine And.intro ?_ ?_)))) rfl
  intro seen hJ
  refine WpR.of_vc ?_
  have hsz : ∀ e ∈ encL L, e.2.2 < clock := fun e he => by
    obtain ⟨q, hq, rfl⟩ := List.mem_map.1 he
    exact hb q hq
  conv => whnf
  refine ⟨hsz, Nat.le_refl _, fun hl => (left_some hq0 hJ hl).elim, fun e he => ?_⟩
  obtain ⟨q, hq, rfl, hns⟩ := left_mem he
  have hst := find_stamp hq (hs q hq)
  obtain ⟨j, d1, d2⟩ := find_key hq (hk q hq)
  have d3 : ∀ em, findAt Try.prog em 116 (key2 q.1) (encL L) = some (some j) := fun em => (findQ em _ _).trans (by rw [d1])
  have hmm := msr_lt hq hns
  by_cases hst2 : q.2.1 = star
  · have := hu q hq hst2
    subst this
    (conv => whnf); (repeat' (first | ((with_reducible refine ifb_mk (fun hc => ?_) (fun hc => ?_)) <;> ((try simp only [decide_eq_true_eq, decide_eq_false_iff_not, Bool.not_eq_true', Bool.not_eq_false', Int.not_lt, Int.not_le, ne_eq, Decidable.not_not, beq_iff_eq, List.cons.injEq, and_true] at hc); (first | (exfalso; omega) | exact absurd True.intro hc | conv => whnf))) | ((with_reducible refine And.intro True.intro ?_); conv => whnf) | (refine som_mk (last_snoc _ _) ?_; conv => whnf) | ((with_reducible refine grd_and ?_); refine And.intro (rfl) ?_; conv => whnf) | (refine som_mk (hst) ?_; conv => whnf) | ((with_reducible refine YldX.all ?_); refine YldW.inline rfl rfl rfl (WpR.of_vc ?_); conv => whnf) | ((with_reducible refine And.intro ?hh ?_); (case hh => (unfold InR; (try dsimp only); omega)); conv => whnf) | ((with_reducible refine And.intro ?hh ?_); (case hh => ((try dsimp only); omega)); conv => whnf) | ((with_reducible refine And.intro ?hh ?_); (case hh => ((conv => whnf); (repeat' (first | exact True.intro | rfl | refine And.intro ?_ ?_)); done)); conv => whnf) | fail))
    refine ⟨_, rfl, rfl, WpR.of_vc ?_⟩
    (conv => whnf); (repeat' (first | ((with_reducible refine ifb_mk (fun hc => ?_) (fun hc => ?_)) <;> ((try simp only [decide_eq_true_eq, decide_eq_false_iff_not, Bool.not_eq_true', Bool.not_eq_false', Int.not_lt, Int.not_le, ne_eq, Decidable.not_not, beq_iff_eq, List.cons.injEq, and_true] at hc); (first | (exfalso; omega) | exact absurd True.intro hc | conv => whnf))) | ((with_reducible refine And.intro True.intro ?_); conv => whnf) | ((with_reducible refine CallX.all (f := 95) ?_); refine CallW.inline Try.func95 rfl rfl (Nat.le_of_ble_eq_true rfl) (WpR.of_vc ?_); conv => whnf) | ((with_reducible refine WpR.draw (id := 1) mixed [0, 1, 2, 3, 4, 5, 6] [0, 1, 0, 7, 0, 31, 63] ?hh ?_); (case hh => kernel_rfl); conv => whnf) | (refine som_mk (d3 _) ?_; conv => whnf) | (refine som_mk (d2) ?_; conv => whnf) | ((with_reducible refine And.intro ?hh ?_); (case hh => (unfold InR; (try dsimp only); omega)); conv => whnf) | ((with_reducible refine And.intro ?hh ?_); (case hh => ((try dsimp only); omega)); conv => whnf) | ((with_reducible refine And.intro ?hh ?_); (case hh => ((conv => whnf); (repeat' (first | exact True.intro | rfl | refine And.intro ?_ ?_)); done)); conv => whnf) | fail))
    all_goals first | exact absurd hst2 hc | skip
    refine ⟨_, _, rfl, ?_⟩
    (conv => whnf); (repeat' (first | ((with_reducible refine ifb_mk (fun hc => ?_) (fun hc => ?_)) <;> ((try simp only [decide_eq_true_eq, decide_eq_false_iff_not, Bool.not_eq_true', Bool.not_eq_false', Int.not_lt, Int.not_le, ne_eq, Decidable.not_not, beq_iff_eq, List.cons.injEq, and_true] at hc); (first | (exfalso; omega) | exact absurd True.intro hc | conv => whnf))) | ((with_reducible refine And.intro True.intro ?_); conv => whnf) | ((with_reducible refine And.intro ?hh ?_); (case hh => (unfold InR; (try dsimp only); omega)); conv => whnf) | ((with_reducible refine And.intro ?hh ?_); (case hh => ((try dsimp only); omega)); conv => whnf) | ((with_reducible refine And.intro ?hh ?_); (case hh => ((conv => whnf); (repeat' (first | exact True.intro | rfl | refine And.intro ?_ ?_)); done)); conv => whnf) | fail))
    (refine ⟨[], ?_, rfl, rfl, trivial, (by (repeat' (first | exact True.intro | rfl | refine And.intro ?_ ?_)))⟩; simp only [renV, renL]; (first | done | rfl | (simp; done) | (simp; omega) | grind))
  · have hne : q0.2.2 ∉ seen ++ [q.2.2] := by
      rw [List.mem_append, List.mem_singleton]
      rintro (h | h)
      · exact hJ h
      · have := hs q hq q0 hq0 h
        subst this
        exact hst2 hs0
    (conv => whnf); (repeat' (first | ((with_reducible refine ifb_mk (fun hc => ?_) (fun hc => ?_)) <;> ((try simp only [decide_eq_true_eq, decide_eq_false_iff_not, Bool.not_eq_true', Bool.not_eq_false', Int.not_lt, Int.not_le, ne_eq, Decidable.not_not, beq_iff_eq, List.cons.injEq, and_true] at hc); (first | (exfalso; omega) | exact absurd True.intro hc | conv => whnf))) | ((with_reducible refine And.intro True.intro ?_); conv => whnf) | (refine som_mk (last_snoc _ _) ?_; conv => whnf) | ((with_reducible refine grd_and ?_); refine And.intro (rfl) ?_; conv => whnf) | (refine som_mk (hst) ?_; conv => whnf) | ((with_reducible refine YldX.all ?_); refine YldW.inline rfl rfl rfl (WpR.of_vc ?_); conv => whnf) | ((with_reducible refine And.intro ?hh ?_); (case hh => (unfold InR; (try dsimp only); omega)); conv => whnf) | ((with_reducible refine And.intro ?hh ?_); (case hh => ((try dsimp only); omega)); conv => whnf) | ((with_reducible refine And.intro ?hh ?_); (case hh => ((conv => whnf); (repeat' (first | exact True.intro | rfl | refine And.intro ?_ ?_)); done)); conv => whnf) | fail))
    refine ⟨_, rfl, rfl, WpR.of_vc ?_⟩
    (conv => whnf); (repeat' (first | ((with_reducible refine ifb_mk (fun hc => ?_) (fun hc => ?_)) <;> ((try simp only [decide_eq_true_eq, decide_eq_false_iff_not, Bool.not_eq_true', Bool.not_eq_false', Int.not_lt, Int.not_le, ne_eq, Decidable.not_not, beq_iff_eq, List.cons.injEq, and_true] at hc); (first | (exfalso; omega) | exact absurd True.intro hc | conv => whnf))) | ((with_reducible refine And.intro True.intro ?_); conv => whnf) | ((with_reducible refine CallX.all (f := 95) ?_); refine CallW.inline Try.func95 rfl rfl (Nat.le_of_ble_eq_true rfl) (WpR.of_vc ?_); conv => whnf) | ((with_reducible refine WpR.draw (id := 1) mixed [0, 1, 2, 3, 4, 5, 6] [0, 1, 0, 7, 0, 31, 63] ?hh ?_); (case hh => kernel_rfl); conv => whnf) | (refine som_mk (d3 _) ?_; conv => whnf) | (refine som_mk (d2) ?_; conv => whnf) | ((with_reducible refine And.intro ?hh ?_); (case hh => (unfold InR; (try dsimp only); omega)); conv => whnf) | ((with_reducible refine And.intro ?hh ?_); (case hh => ((try dsimp only); omega)); conv => whnf) | ((with_reducible refine And.intro ?hh ?_); (case hh => ((conv => whnf); (repeat' (first | exact True.intro | rfl | refine And.intro ?_ ?_)); done)); conv => whnf) | fail))
    all_goals first | exact absurd hc hst2 | skip
    refine ⟨_, _, rfl, ?_⟩
    (conv => whnf); (repeat' (first | ((with_reducible refine ifb_mk (fun hc => ?_) (fun hc => ?_)) <;> ((try simp only [decide_eq_true_eq, decide_eq_false_iff_not, Bool.not_eq_true', Bool.not_eq_false', Int.not_lt, Int.not_le, ne_eq, Decidable.not_not, beq_iff_eq, List.cons.injEq, and_true] at hc); (first | (exfalso; omega) | exact absurd True.intro hc | conv => whnf))) | ((with_reducible refine And.intro True.intro ?_); conv => whnf) | ((with_reducible refine And.intro ?hh ?_); (case hh => (unfold InR; (try dsimp only); omega)); conv => whnf) | ((with_reducible refine And.intro ?hh ?_); (case hh => ((try dsimp only); omega)); conv => whnf) | ((with_reducible refine And.intro ?hh ?_); (case hh => ((conv => whnf); (repeat' (first | exact True.intro | rfl | refine And.intro ?_ ?_)); done)); conv => whnf) | fail))
    exact ⟨seen ++ [q.2.2], [], hmm, hne, ⟨rfl, rfl, (by (repeat' (first | exact True.intro | rfl | refine And.intro ?_ ?_))), (by (repeat' (first | exact True.intro | rfl | refine And.intro ?_ ?_))), (by (repeat' (first | exact True.intro | rfl | refine And.intro ?_ ?_))), ⟨.inr ⟨_, rfl, .iter⟩, trivial⟩, rfl, rfl⟩⟩
end Go.Proofs.U

namespace Go.Proofs.U
open Go.As
set_option maxRecDepth 20000
set_option linter.unusedVariables false
set_option linter.unusedSimpArgs false

/-! ### Such calls, known wherever they come -/

def decP : Value → Option P2
  | .agg a => (match a.toList with
    | [.int .i64 x, .int .i64 y] => some (x, y)
    | _ => none)
  | _ => none
theorem decP_eq {v : Value} {p : P2} (h : decP v = some p) : v = key2 p := by
  unfold decP at h
  split at h
  · rename_i a
    split at h
    · rename_i x y ha
      cases h
      show Value.agg a = intsV [x, y]
      unfold intsV
      congr 1
      apply Array.toList_inj.1
      rw [ha]; rfl
    · cases h
  · cases h
def decE (e : Value × V × Nat) : Option Q := match decP e.1, e.2.1 with
  | some p, .int .i64 s => some (p, s, e.2.2)
  | _, _ => none
theorem decE_eq {e : Value × V × Nat} {q : Q} (h : decE e = some q) : e = enc q := by
  unfold decE at h
  obtain ⟨v, u, n⟩ := e
  dsimp only at h
  split at h
  · rename_i p s hp
    cases h
    rw [decP_eq hp]; rfl
  · cases h
def decL : List (Value × V × Nat) → Option (List Q)
  | [] => some []
  | e :: l => match decE e, decL l with
    | some q, some r => some (q :: r)
    | _, _ => none
theorem decL_eq : ∀ {es : List (Value × V × Nat)} {L : List Q}, decL es = some L → es = encL L
  | [], L, h => by cases h; rfl
  | e :: l, L, h => by
    simp only [decL] at h
    split at h
    · rename_i q r h1 h2
      cases h
      rw [decE_eq h1, decL_eq h2]; rfl
    · cases h
def p2eq (a b : P2) : Bool := ieq a.1 b.1 && ieq a.2 b.2
theorem p2eq_iff {a b : P2} : p2eq a b = true ↔ a = b := by
  obtain ⟨a1, a2⟩ := a
  obtain ⟨b1, b2⟩ := b
  unfold p2eq
  rw [ieq_eq, ieq_eq]
  simp
def distQ : List Q → Bool
  | [] => true
  | q :: l => (l.all fun a => !p2eq a.1 q.1 && !Nat.beq a.2.2 q.2.2) && distQ l
theorem distQ_spec : ∀ {L : List Q}, distQ L = true → ∀ q ∈ L, ∀ a ∈ L, (a.1 = q.1 ∨ a.2.2 = q.2.2) → a = q
  | [], _, q, hq, _, _, _ => by cases hq
  | b :: L, h, q, hq, a, ha, he => by
    simp only [distQ, Bool.and_eq_true, List.all_eq_true, Bool.not_eq_true'] at h
    obtain ⟨h1, h2⟩ := h
    have key : ∀ x ∈ L, x.1 ≠ b.1 ∧ x.2.2 ≠ b.2.2 := fun x hx => by
      obtain ⟨g1, g2⟩ := h1 x hx
      exact ⟨fun hc => (by rw [p2eq_iff.2 hc] at g1; cases g1), fun hc => (by rw [hc, Nat.beq_refl] at g2; cases g2)⟩
    rcases List.mem_cons.1 hq with hq1 | hq1
    · rcases List.mem_cons.1 ha with ha1 | ha1
      · rw [hq1, ha1]
      · subst hq1; exact (he.elim (key a ha1).1 (key a ha1).2).elim
    · rcases List.mem_cons.1 ha with ha1 | ha1
      · subst ha1; exact (he.elim (fun h => (key q hq1).1 h.symm) (fun h => (key q hq1).2 h.symm)).elim
      · exact distQ_spec h2 q hq1 a ha1 he

noncomputable def k93 : Memo := fun f args h => match Nat.beq f 93 with
  | false => none
  | true => (match args with
    | [.fn f1 [] [.ptr b0 0], .fn f2 [] [.ptr b1 o1, .ptr b2 o2]] => (match Nat.beq f1 103, Nat.beq f2 95, h.get b0, h.get b1, h.get b2 with
      | true, true, some (.cells c0 _ _), some (.cells c1 _ _), some (.cells c2 _ _) => (match c0.get 0, c1.get (o1 + 3), c2.get o2 with
        | some (.map mb), some (.map mb'), some (.int .i64 star) => (match Nat.beq mb mb', h.get mb with
          | true, some (.map es clock) => (match decL es with
            | some L => (match (L.all fun q => Nat.blt q.2.2 clock) && distQ L, L.filter fun q => ieq q.2.1 star with
              | true, [q0] => some (.tup [.agg [.int .i64 q0.1.1, .int .i64 q0.1.2], .bool true], h)
              | _, _ => none)
            | none => none)
          | _, _ => none)
        | _, _, _ => none)
      | _, _, _, _, _ => none)
    | _ => none)

theorem k93_ok : MemoOk Try.prog k93 := by
  intro f args h v h' he
  unfold k93 at he
  split at he
  · cases he
  · rename_i hf
    have hf' := Nat.eq_of_beq_eq_true hf
    subst hf'
    split at he
    · rename_i f1 b0 f2 b1 o1 b2 o2
      split at he
      · rename_i c0 w0 g0 c1 w1 g1 c2 w2 g2 hf1 hf2 h0 h1 h2
        have e1 := Nat.eq_of_beq_eq_true hf1
        have e2 := Nat.eq_of_beq_eq_true hf2
        subst e1 e2
        split at he
        · rename_i mb mb' star h0' h1' h2'
          split at he
          · rename_i es clock hmm hm
            have e3 := Nat.eq_of_beq_eq_true hmm
            subst e3
            split at he
            · rename_i L hL
              split at he
              · rename_i q0 hok hfl
                cases he
                rw [decL_eq hL] at hm
                simp only [Bool.and_eq_true, List.all_eq_true, Nat.blt_eq] at hok
                have hd := distQ_spec hok.2
                have hmem : ∀ q, q ∈ L.filter (fun q => ieq q.2.1 star) ↔ q = q0 := fun q => by rw [hfl, List.mem_singleton]
                have hq0 := List.mem_filter.1 ((hmem q0).2 rfl)
                have hs0 : q0.2.1 = star := by have := hq0.2; rw [ieq_eq] at this; simpa using this
                exact firstStrike_ok h b0 b1 o1 b2 o2 mb star L clock q0 h0 h0' h1 h1' h2 h2' hm hok.1 (fun q hq a ha h => hd q hq a ha (.inl h)) (fun q hq a ha h => hd q hq a ha (.inr h)) hq0.1 hs0
                  (fun q hq hs => (hmem q).1 (List.mem_filter.2 ⟨hq, by rw [ieq_eq]; simpa using hs⟩))
              · cases he
            · cases he
          · cases he
        · cases he
      · cases he
    · cases he
end Go.Proofs.U

namespace Go.Proofs.U
open Go.As
set_option maxRecDepth 20000
set_option linter.unusedVariables false
set_option linter.unusedSimpArgs false
theorem wwhole : CallOk Try.prog 18 [] H.empty (.bool .true) H.empty := .of_chk mixed k93_ok 3000 (by kernel_rfl)
theorem works_any (h : H) : CallOk Try.prog 18 [] h (.bool true) h := wwhole.everywhere rfl h
end Go.Proofs.U
