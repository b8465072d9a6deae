/- What the functions answer that the laws call, one after another (Sm). -/
import Derived.Test.YtgopneibaajgbaaAs6
import Derived.Test.YtgopneibaajgbaaR2
import Derived.Test.YtgopneibaajgbaaU

set_option linter.unusedVariables false
namespace Go.Proofs.H
open Go.As
set_option maxRecDepth 20000
set_option linter.unusedVariables false
set_option linter.unusedSimpArgs false

/-! ### Blows in any order -/

set_option maxHeartbeats 4000000 in
theorem longsS_ok (h : As.H) (n : Nat) (a : Nat → Int) (sv : V) (hn : n ≤ 64) (hn0 : 0 < n) (hs : SlC h (arrV n fun k => .int .i64 (a k)) n sv) (ex : Bool) (b : Nat → Int) (he : ∀ i, i < n → a i = b i) : CallOk Try.prog 24 [sv, .rsl ex 1 n (iG b)] h (.bool true) h := by
  obtain ⟨vo, svC, hsv, hca, hvw⟩ := hs.view 0
  refine CallOk.run Try.func24 rfl rfl (argsC := [svC, .rsl ex 1 n (iG b)]) (Nat.le_of_ble_eq_true rfl) [vo] (.cons (hca _ rfl) (.cons (.lt0 rfl) .nil)) (viewMc1 (arrV_bare fun _ => rfl) hvw) rfl (WpR.of_vc ?_)
  have hBare : ∀ v ∈ arrV n (fun k => V.int .i64 (a k)), bare0 v = true := arrV_bare fun _ => rfl
  have hg := fun i (hi : i < n) => aB_get (n := n) (a := a) (o := 0 + (i : Int).toNat * 1) (i := i) (by omega) hi
  cases hsv with
  | nil h0 => omega
  | @sl cap exx =>
  (conv => whnf); (repeat' (first | ((with_reducible refine ifb_mk (fun hc => ?_) (fun hc => ?_)) <;> ((try simp only [decide_eq_true_eq, decide_eq_false_iff_not, Bool.not_eq_true', Bool.not_eq_false', Int.not_lt, Int.not_le, ne_eq, Decidable.not_not, beq_iff_eq, List.cons.injEq, and_true] at hc); (first | (exfalso; omega) | exact absurd True.intro hc | conv => whnf))) | ((with_reducible refine And.intro True.intro ?_); conv => whnf) | ((with_reducible refine And.intro ?hh ?_); (case hh => exact condA); conv => whnf) | fail))
  all_goals try (exfalso; omega)
  refine WpR.loopA (ι := Nat) [] [0, 1] [] [] 1 (fun i => [(5, .int .i64 i)]) (fun _ => []) (fun i => n - i) (fun i => i ≤ n) ?_ (0) (Nat.zero_le _) [] Back.auto
  intro i hi
  refine WpR.of_vc ?_
  by_cases hil : i < n
  · have hgi := hg i hil
    have e := he i hil
    (conv => whnf); (repeat' (first | ((with_reducible refine ifb_mk (fun hc => ?_) (fun hc => ?_)) <;> ((try simp only [decide_eq_true_eq, decide_eq_false_iff_not, Bool.not_eq_true', Bool.not_eq_false', Int.not_lt, Int.not_le, ne_eq, Decidable.not_not, beq_iff_eq, List.cons.injEq, and_true] at hc); (first | (exfalso; omega) | exact absurd True.intro hc | conv => whnf))) | ((with_reducible refine And.intro True.intro ?_); conv => whnf) | ((with_reducible refine grd_and ?_); refine And.intro (hil) ?_; conv => whnf) | (refine som_mk (hgi) ?_; conv => whnf) | ((with_reducible refine WpR.draw (id := 6) mixed [0, 1, 2, 3, 4, 5, 6, 7, 8] [0, 0, 3, 7, 0, 0, 48, 112, 255] ?hh ?_); (case hh => kernel_rfl); conv => whnf) | ((with_reducible refine And.intro ?hh ?_); (case hh => exact condA); conv => whnf) | fail))
    all_goals first | (exfalso; omega) | exact ⟨i + 1, [], by omega, by omega, Back.auto⟩
  · (conv => whnf); (repeat' (first | ((with_reducible refine ifb_mk (fun hc => ?_) (fun hc => ?_)) <;> ((try simp only [decide_eq_true_eq, decide_eq_false_iff_not, Bool.not_eq_true', Bool.not_eq_false', Int.not_lt, Int.not_le, ne_eq, Decidable.not_not, beq_iff_eq, List.cons.injEq, and_true] at hc); (first | (exfalso; omega) | exact absurd True.intro hc | conv => whnf))) | ((with_reducible refine And.intro True.intro ?_); conv => whnf) | ((with_reducible refine grd_and ?_); refine And.intro (hil) ?_; conv => whnf) | ((with_reducible refine WpR.draw (id := 6) mixed [0, 1, 2, 3, 4, 5, 6, 7, 8] [0, 0, 3, 7, 0, 0, 48, 112, 255] ?hh ?_); (case hh => kernel_rfl); conv => whnf) | ((with_reducible refine And.intro ?hh ?_); (case hh => exact condA); conv => whnf) | fail))
    all_goals first | (refine ⟨[], ?_, rfl, rfl, trivial, trivs⟩; simp only [renV, renL]; (first | done | rfl | (simp; done) | (simp; omega) | grind)) | (exfalso; omega)
end Go.Proofs.H

namespace Go.Proofs.H
open Go.As
set_option maxRecDepth 20000
set_option linter.unusedVariables false
set_option linter.unusedSimpArgs false

/-! ### The law of the order of blows -/

def NL (s : Nat → Int) : Nat → List Int
  | 0 => []
  | i + 1 => if 3 < s i then (i : Int) :: NL s i else NL s i
theorem NL_mem (s : Nat → Int) : ∀ (i : Nat) (x : Int), x ∈ NL s i → ∃ j : Nat, x = j ∧ j < i ∧ 3 < s j
  | 0, x, h => by simp [NL] at h
  | i + 1, x, h => by
    unfold NL at h
    by_cases h3 : 3 < s i
    · rw [if_pos h3] at h
      rcases List.mem_cons.1 h with h | h
      · exact ⟨i, h, by omega, h3⟩
      · obtain ⟨j, e, hj, h4⟩ := NL_mem s i x h; exact ⟨j, e, by omega, h4⟩
    · rw [if_neg h3] at h
      obtain ⟨j, e, hj, h4⟩ := NL_mem s i x h; exact ⟨j, e, by omega, h4⟩
theorem NL_nil (s : Nat → Int) : ∀ i : Nat, NL s i = [] → ∀ j, j < i → s j ≤ 3
  | 0, _, j, hj => absurd hj (Nat.not_lt_zero j)
  | i + 1, h, j, hj => by
    unfold NL at h
    by_cases h3 : 3 < s i
    · rw [if_pos h3] at h; cases h
    · rw [if_neg h3] at h
      by_cases hji : j = i
      · subst hji; omega
      · exact NL_nil s i h j (by omega)
theorem NL_len (s : Nat → Int) : ∀ i : Nat, (NL s i).length ≤ i
  | 0 => Nat.le_refl _
  | i + 1 => by
    unfold NL
    have := NL_len s i
    by_cases h3 : 3 < s i
    · rw [if_pos h3, List.length_cons]; omega
    · rw [if_neg h3]; omega
theorem gI_get {l : List Int} {k o : Nat} {x : Int} (h : l.reverse[k]? = some x) (ho : o = k) : (ofL (gR eI l) 0).get o = some (.int .i64 x) := by
  subst ho
  exact get_ofL0 (by have := gR_at (k := 0) (v := .int .i64 x) eI_len h rfl; rwa [show o * 1 + 0 = o from by omega] at this)
def nowW (n : Nat) (b : Bool) (a : Nat → Int) : V := match b with
  | true => .sl 3 0 (0 + n) (0 + n) false
  | false => .rsl false 1 n (iG a)
theorem nowW_lt (n : Nat) (b : Bool) (a : Nat → Int) : ltV 5 (nowW n b a) = true := by cases b <;> rfl
set_option maxHeartbeats 16000000 in
theorem lawSame (h : As.H) (W H : Int) (k : Nat) (d : Nat → Int) (hk : k ≤ 9223372036854775807) (m1 : Nat) (b1 : Nat → Int) (hm1 : m1 ≤ 9223372036854775807) (hb1 : ∀ i, i < m1 → 0 ≤ b1 i ∧ b1 i ≤ 255) :
    CallOk Try.prog 7 [plV W H false k d, .rsl false 1 m1 (bG b1)] h (.bool true) h := by
  have kWk := fun h : As.H => wwhole.everywhere rfl h
  rcases fine_split W H k d hk with ⟨w, hh, rfl, rfl, p⟩ | kF
  rotate_left
  · refine CallOk.run0 Try.func7 rfl rfl rfl rfl rfl (WpR.of_vc ?_)
    (conv => whnf); (repeat' (first | ((with_reducible refine ifb_mk (fun hc => ?_) (fun hc => ?_)) <;> ((try simp only [decide_eq_true_eq, decide_eq_false_iff_not, Bool.not_eq_true', Bool.not_eq_false', Int.not_lt, Int.not_le, ne_eq, Decidable.not_not, beq_iff_eq, List.cons.injEq, and_true] at hc); (first | (exfalso; omega) | exact absurd True.intro hc | conv => whnf))) | ((with_reducible refine And.intro True.intro ?_); conv => whnf) | ((with_reducible refine CallX.all ?_); refine CallW.of_ok (kF _) ?_; conv => whnf) | ((with_reducible refine CallX.all ?_); refine CallW.of_ok (kWk _) ?_; conv => whnf) | ((with_reducible refine WpR.draw (id := 21) mixed [0, 1, 2, 3, 4, 5, 6, 7, 8, 9, 10, 11, 12, 13, 14, 15, 16] [0, 0, 0, 4, 14, 31, 63, 127, 0, 0, 512, 1792, 4095, 0, 8192, 32767, 65535] ?hh ?_); (case hh => kernel_rfl); conv => whnf) | ((with_reducible refine WpR.draw (id := 22) mixed [0, 1, 2, 3, 4, 5, 6, 7, 8, 9, 10] [0, 1, 0, 4, 0, 0, 0, 96, 224, 511, 1023] ?hh ?_); (case hh => kernel_rfl); conv => whnf) | ((with_reducible refine And.intro ?hh ?_); (case hh => exact condA); conv => whnf) | fail))
    all_goals (refine ⟨[], ?_, rfl, rfl, trivial, trivs⟩; simp only [renV, renL]; (first | done | rfl | (simp; done) | (simp; omega) | grind))
  have k0 := fun h' => fineV p h'
  have hle := p.le
  by_cases hl1 : 200 < m1
  · refine CallOk.run0 Try.func7 rfl rfl rfl rfl rfl (WpR.of_vc ?_)
    (conv => whnf); (repeat' (first | ((with_reducible refine ifb_mk (fun hc => ?_) (fun hc => ?_)) <;> ((try simp only [decide_eq_true_eq, decide_eq_false_iff_not, Bool.not_eq_true', Bool.not_eq_false', Int.not_lt, Int.not_le, ne_eq, Decidable.not_not, beq_iff_eq, List.cons.injEq, and_true] at hc); (first | (exfalso; omega) | exact absurd True.intro hc | conv => whnf))) | ((with_reducible refine And.intro True.intro ?_); conv => whnf) | ((with_reducible refine CallX.all ?_); refine CallW.of_ok (k0 _) ?_; conv => whnf) | ((with_reducible refine CallX.all ?_); refine CallW.of_ok (kWk _) ?_; conv => whnf) | ((with_reducible refine WpR.draw (id := 21) mixed [0, 1, 2, 3, 4, 5, 6, 7, 8, 9, 10, 11, 12, 13, 14, 15, 16] [0, 0, 0, 4, 14, 31, 63, 127, 0, 0, 512, 1792, 4095, 0, 8192, 32767, 65535] ?hh ?_); (case hh => kernel_rfl); conv => whnf) | ((with_reducible refine WpR.draw (id := 22) mixed [0, 1, 2, 3, 4, 5, 6, 7, 8, 9, 10] [0, 1, 0, 4, 0, 0, 0, 96, 224, 511, 1023] ?hh ?_); (case hh => kernel_rfl); conv => whnf) | ((with_reducible refine And.intro ?hh ?_); (case hh => exact condA); conv => whnf) | fail))
    all_goals first | (refine ⟨[], ?_, rfl, rfl, trivial, trivs⟩; simp only [renV, renL]; (first | done | rfl | (simp; done) | (simp; omega) | grind)) | (exfalso; omega)
  have kf := fun h' => flatV p h'
  have hwh := p.hn
  have g := p.g
  have hpd := p.ptd
  have huniq : ∀ s : F2, Mid k (adI w hh) (wgt w) d s → (∀ j, j < k → s.1 j ≤ 3) → ∀ j, j < k → s.1 j = xF w hh d j ∧ s.2 j = uF w hh d j := fun s m hf j hj => by
    have g' := gr_ok p.hw p.hh
    have h0 := p.d0
    rw [p.hn] at m hf hj h0
    exact Mid.uniq g' h0 m hf j hj
  have hhit := fun (s : F2) (i : Nat) (m : Mid k (adI w hh) (wgt w) d s) (hi : i < k) (h3 : 3 < s.1 i) => m.hit g hi (N := 1) (by omega) (by omega)
  have hpt := fun (s : F2) (i : Nat) (hi : i < k) => pt_hit_le g s.1 hi (N := 1) (by omega)
  have hptn := fun (s : F2) (m : Mid k (adI w hh) (wgt w) d s) => pt_nn g m.nn
  have hrng : ∀ s : F2, Mid k (adI w hh) (wgt w) d s → ∀ j, j < k → 0 ≤ s.1 j ∧ s.1 j ≤ 12960 ∧ 0 ≤ s.2 j ∧ s.2 j ≤ 12960 := fun s m j hj => by
    have q1 := m.pv j hj
    have q2 := m.vn j hj
    have q3 := m.nn j hj
    have q4 := le_pt g m.nn hj
    have q5 := pt_nn g m.nn
    omega
  have kH1 : ∀ (s : F2) (i : Nat), Mid k (adI w hh) (wgt w) d s → i < k → ∀ h' : As.H, CallOk Try.prog 44 [.int .i64 w, .int .i64 hh, .rsl false 1 k (iG s.1), .int .i64 i, .int .i64 1] h' (.rsl false 1 k (iG (hitA (adI w hh) s.1 i 1))) h' := fun s i m hi h' =>
    hitR_ok h' w hh i p.hw p.hh (by omega) k hwh false s.1 1 (fun j hj => by have := hrng s m j (by omega); omega) (by omega)
  have kH2 : ∀ (i : Nat), i < k → ∀ (h' : As.H) (sv : V), SlC h' (arrV k fun j => .int .i64 (d j)) k sv → CallOk Try.prog 44 [.int .i64 w, .int .i64 hh, sv, .int .i64 i, .int .i64 1] h' (.rsl false 1 k (iG (hitA (adI w hh) d i 1))) h' := fun i hi h' sv hsv =>
    hitS_ok h' w hh i p.hw p.hh (by omega) k hwh sv d 1 (fun j hj => by have := p.hd j hj; omega) (by omega) hsv
  have hstart := Mid.start (n := k) (A := adI w hh) (w := wgt w) p.d0
  have hadd := fun h' : As.H => added_rsl (h := h') (ex := false) (n := k) (a := d)
  have hq2 : ∀ ρ : Nat → Nat, SubQ ρ (aB k (fun _ => 0) none) (.cells (ofL (rep (0 + k) [V.int .i64 0]) 0) true none) := fun ρ => by rw [Nat.zero_add, arrV_rep]; exact aB_sub fun _ _ => rfl
  have hMap : ∀ v, ltB 5 (aB k v none) := fun v => aB_lt
  have hMapB : ∀ v, ltB 1000 (aB k v none) := fun v => aB_lt
  have hq1 : ltB 5 (.cells (ofL (arrV k fun j => V.int .i64 (d j)) 0) true (some (1, (0 + k) * 1))) := aB_lt
  have hq3 : ltB 5 (.cells (ofL (rep (0 + k) [V.int .i64 0]) 0) true none) := by rw [Nat.zero_add, arrV_rep]; exact aB_lt
  have hbw : ∀ (ρ : Nat → Nat) (v : Nat → Int) (i : Nat) (N : Int) (o : Nat), o = i → i < k → SubQ ρ (aB k (fun j => v j + ee i N j) none) (.cells ((ofL (arrV k fun j => V.int .i64 (v j)) 0).set o (.int .i64 (v i + N))) true none) := fun ρ v i N o ho hi => aB_set ho fun j hj => by
    unfold ee; (try dsimp only); by_cases h : j = i; (subst h; rw [if_pos rfl, if_pos rfl]); (rw [if_neg h, if_neg h]; omega)
  have hbg : ∀ (v : Nat → Int) (i o : Nat), o = i → i < k → (ofL (arrV k fun j => V.int .i64 (v j)) 0).get o = some (.int .i64 (v i)) := fun v i o ho hi => aB_get ho hi
  have hbp : ∀ (v : Nat → Int) (i o : Nat) (x : Int), o = i → i < k → putN [V.int .i64 x] (ofL (arrV k fun j => .int .i64 (v j)) 0) o = some ((ofL (arrV k fun j => .int .i64 (v j)) 0).set o (.int .i64 x)) := fun v i o x ho hi => aB_put ho hi
  have hsl : ∀ h' : As.H, h'.get 3 = some (.cells (ofL (arrV k fun j => V.int .i64 (d j)) 0) true (some (1, (0 + k) * 1))) → SlC h' (arrV k fun j => .int .i64 (d j)) k (.sl 3 0 (0 + k) (0 + k) false) := fun h' hg => by rw [Nat.zero_add]; rw [Nat.zero_add] at hg; exact SlC.own hg
  have hslB : ∀ (h' : As.H) (v : Nat → Int), h'.get 4 = some (aB k v none) → SlC h' (arrV k fun j => .int .i64 (v j)) k (.sl 4 0 (0 + k) (0 + k) true) := fun h' v hg => by rw [Nat.zero_add]; exact SlC.own hg
  have kLS := fun (h' : As.H) (a b : Nat → Int) (sv : V) (e : ∀ i, i < k → a i = b i) hs => longsS_ok h' k a sv (by omega) (by omega) hs false b e
  have kLR := fun (h' : As.H) (a b : Nat → Int) (e : ∀ i, i < k → a i = b i) => by
    have := longs_ok h' false false k k a b (by omega) (by omega)
    rw [eqB_t rfl e] at this
    exact this
  generalize xF w hh d = x0 at *
  generalize uF w hh d = u0 at *
  clear p g
  refine CallOk.run0 Try.func7 rfl rfl rfl rfl rfl (WpR.of_vc ?_)
  (conv => whnf); (repeat' (first | ((with_reducible refine ifb_mk (fun hc => ?_) (fun hc => ?_)) <;> ((try simp only [decide_eq_true_eq, decide_eq_false_iff_not, Bool.not_eq_true', Bool.not_eq_false', Int.not_lt, Int.not_le, ne_eq, Decidable.not_not, beq_iff_eq, List.cons.injEq, and_true] at hc); (first | (exfalso; omega) | exact absurd True.intro hc | conv => whnf))) | ((with_reducible refine And.intro True.intro ?_); conv => whnf) | ((with_reducible refine CallX.all ?_); refine CallW.of_ok (k0 _) ?_; conv => whnf) | ((with_reducible refine CallX.all ?_); refine CallW.of_ok (kf _) ?_; conv => whnf) | (refine som_mk (hadd _) ?_; conv => whnf) | (refine AppX.copy (n := k) (L := []) rfl rfl rfl (by omega) (by omega) ?_; conv => whnf) | ((with_reducible refine And.intro ?hh ?_); (case hh => exact condA); conv => whnf) | fail))
  refine WpR.loopA (ι := (Bool × F2) × Int) [] [0, 1, 2, 5, 6, 9] [4] [] 5 (fun p => [(8, nowW k p.1.1 p.1.2.1), (10, .int .i64 p.2)]) (fun p => [(4, aB k p.1.2.2 none)]) (fun p => (20000 - p.2).toNat) (fun p => Mid k (adI w hh) (wgt w) d p.1.2 ∧ 0 ≤ p.2 ∧ 2 * p.2 ≤ pt k (wgt w) d - pt k (wgt w) p.1.2.1 ∧ (p.1.1 = true → p.1.2 = (d, fun _ => 0))) ?_ (((true, (d, fun _ => 0)), 0)) (⟨hstart, by simp, by simp, fun _ => rfl⟩) [] ⟨rfl, rfl, (by (repeat' (first | exact True.intro | rfl | exact gr_ren rfl | exact aV_ren rfl | exact aW_ren rfl rfl | refine And.intro ?_ ?_))), (by (repeat' (first | exact True.intro | rfl | exact gr_ren rfl | exact aV_ren rfl | exact aW_ren rfl rfl | refine And.intro ?_ ?_))), (by (repeat' (first | exact True.intro | rfl | exact gr_ren rfl | exact aV_ren rfl | exact aW_ren rfl rfl | refine And.intro ?_ ?_))), ⟨.inr ⟨_, rfl, hq2 _⟩, trivial⟩, rfl, rfl⟩ (htv := fun p _ => ⟨nowW_lt _ _ _, rfl, trivial⟩)
  rintro ⟨⟨b, s⟩, st⟩ ⟨j1, j0, j2, j3⟩
  dsimp only at j1 j0 j2 j3
  refine WpR.of_vc ?_
  have hpn := hptn s j1
  have hst : st < 20000 := by omega
  have hst0 := hst
  have hN0 : NL s.1 0 = [] := rfl
  have hNS : ∀ i, NL s.1 (i + 1) = if 3 < s.1 i then (i : Int) :: NL s.1 i else NL s.1 i := fun i => rfl
  have hNm := NL_mem s.1 k
  have hNn := NL_nil s.1 k
  have hNl := NL_len s.1
  generalize NL s.1 = NQ at *
  have hrs := fun j hj => hrng s j1 j hj
  have hMapC : ∀ v, avB [5] (aB k v none) := fun v => avB_ofLb (arrV_bare fun _ => rfl)
  have hBare : ∀ v ∈ arrV k (fun j => V.int .i64 (d j)), bare0 v = true := arrV_bare fun _ => rfl
  cases b with
  | false =>
    (conv => whnf); (repeat' (first | ((with_reducible refine ifb_mk (fun hc => ?_) (fun hc => ?_)) <;> ((try simp only [decide_eq_true_eq, decide_eq_false_iff_not, Bool.not_eq_true', Bool.not_eq_false', Int.not_lt, Int.not_le, ne_eq, Decidable.not_not, beq_iff_eq, List.cons.injEq, and_true] at hc); (first | (exfalso; omega) | exact absurd True.intro hc | conv => whnf))) | ((with_reducible refine And.intro True.intro ?_); conv => whnf) | ((with_reducible refine And.intro ?hh ?_); (case hh => exact condA); conv => whnf) | fail))
    refine WpR.loopA (ι := Nat × List Int) [5] [0, 1, 2, 5, 6, 8, 9, 10] [5] [] 6 (fun p => [(11, grV 5 p.2.length), (12, .int .i64 p.1)]) (fun p => [(5, grB 1 (gR eI p.2) p.2.length)]) (fun p => k - p.1) (fun p => p.1 ≤ k ∧ p.2 = NQ p.1) ?_ ((0, [])) (⟨Nat.zero_le _, hN0.symm⟩) [] ⟨rfl, rfl, (by (repeat' (first | exact True.intro | rfl | exact gr_ren rfl | exact aV_ren rfl | exact aW_ren rfl rfl | refine And.intro ?_ ?_))), (by (repeat' (first | exact True.intro | rfl | exact gr_ren rfl | exact aV_ren rfl | exact aW_ren rfl rfl | refine And.intro ?_ ?_))), (by (repeat' (first | exact True.intro | rfl | exact gr_ren rfl | exact aV_ren rfl | exact aW_ren rfl rfl | refine And.intro ?_ ?_))), ⟨.inl rfl, trivial⟩, rfl, rfl⟩ (htv := fun p _ => ⟨grV_lt rfl _, rfl, trivial⟩)
    rintro ⟨i, q⟩ ⟨i1, i2⟩
    dsimp only at i1 i2
    refine WpR.of_vc ?_
    have hql := hNl i
    rw [← i2] at hql
    by_cases hi : i < k
    · have e := hNS i
      rw [← i2] at e
      have hri := hrs i hi
      by_cases h3 : 3 < s.1 i
      · rw [if_pos h3] at e
        (conv => whnf); (repeat' (first | ((with_reducible refine ifb_mk (fun hc => ?_) (fun hc => ?_)) <;> ((try simp only [decide_eq_true_eq, decide_eq_false_iff_not, Bool.not_eq_true', Bool.not_eq_false', Int.not_lt, Int.not_le, ne_eq, Decidable.not_not, beq_iff_eq, List.cons.injEq, and_true] at hc); (first | (exfalso; omega) | exact absurd True.intro hc | conv => whnf))) | ((with_reducible refine And.intro True.intro ?_); conv => whnf) | ((with_reducible refine grd_and ?_); refine And.intro (hi) ?_; conv => whnf) | (refine AppX.gr (n := 1) (L := gR eI q) (len := q.length) rfl rfl (gI_len q) (gI_one q) Nat.zero_lt_one (by omega) ?_; conv => whnf) | ((with_reducible refine And.intro ?hh ?_); (case hh => exact condA); conv => whnf) | fail))
        all_goals first | (exfalso; omega) | exact ⟨(i + 1, (i : Int) :: q), [(5, 7)], by dsimp only; omega, ⟨by dsimp only; omega, e.symm⟩, Back.auto⟩
      · rw [if_neg h3] at e
        (conv => whnf); (repeat' (first | ((with_reducible refine ifb_mk (fun hc => ?_) (fun hc => ?_)) <;> ((try simp only [decide_eq_true_eq, decide_eq_false_iff_not, Bool.not_eq_true', Bool.not_eq_false', Int.not_lt, Int.not_le, ne_eq, Decidable.not_not, beq_iff_eq, List.cons.injEq, and_true] at hc); (first | (exfalso; omega) | exact absurd True.intro hc | conv => whnf))) | ((with_reducible refine And.intro True.intro ?_); conv => whnf) | ((with_reducible refine grd_and ?_); refine And.intro (hi) ?_; conv => whnf) | ((with_reducible refine And.intro ?hh ?_); (case hh => exact condA); conv => whnf) | fail))
        all_goals first | (exfalso; omega) | exact ⟨(i + 1, q), [], by dsimp only; omega, ⟨by dsimp only; omega, e.symm⟩, Back.auto⟩
    · have ei : i = k := by omega
      rw [ei] at i2
      rw [← i2] at hNm hNn
      cases q with
      | nil =>
        have hflat := hNn rfl
        have hend := huniq _ j1 hflat
        (conv => whnf); (repeat' (first | ((with_reducible refine ifb_mk (fun hc => ?_) (fun hc => ?_)) <;> ((try simp only [decide_eq_true_eq, decide_eq_false_iff_not, Bool.not_eq_true', Bool.not_eq_false', Int.not_lt, Int.not_le, ne_eq, Decidable.not_not, beq_iff_eq, List.cons.injEq, and_true] at hc); (first | (exfalso; omega) | exact absurd True.intro hc | conv => whnf))) | ((with_reducible refine And.intro True.intro ?_); conv => whnf) | ((with_reducible refine grd_and ?_); refine And.intro (hi) ?_; conv => whnf) | ((with_reducible refine CallX.all ?_); refine CallW.of_ok (kLR _ _ _ (fun i hi => (hend i hi).1)) ?_; conv => whnf) | ((with_reducible refine grd_ex ?_); refine ex_ok (kLS _ _ _ _ (fun i hi => (hend i hi).2) (hslB _ _ rfl)) ?_; conv => whnf) | ((with_reducible refine CallX.all ?_); refine CallW.of_ok (kLS _ _ _ _ (fun i hi => (hend i hi).2) (hslB _ _ rfl)) ?_; conv => whnf) | ((with_reducible refine CallX.all ?_); refine CallW.of_ok (kWk _) ?_; conv => whnf) | ((with_reducible refine grd_ex ?_); refine ex_ok (kWk _) ?_; conv => whnf) | ((with_reducible refine And.intro ?hh ?_); (case hh => exact condA); conv => whnf) | fail))
        all_goals first | (refine ⟨[], ?_, rfl, rfl, trivial, trivs⟩; simp only [renV, renL]; (first | done | rfl | (simp; done) | (simp; omega) | grind)) | (exfalso; omega)
      | cons y q =>
        have hq36 : q.length + 1 ≤ k := by rw [List.length_cons] at hql; omega
        by_cases h0 : 0 < m1
        · obtain ⟨sn, hsn⟩ : ∃ sn : Nat, st = sn := ⟨st.toNat, by omega⟩
          have him : sn % m1 < m1 := Nat.mod_lt _ h0
          have hbi := hb1 _ him
          have ei : st.tmod m1 = ((sn % m1 : Nat) : Int) := by rw [hsn, Int.tmod_eq_emod_of_nonneg (by omega)]; omega
          have y0 : (m1 : Int) ≠ 0 := by omega
          have y1 : InR (st.tmod m1) := by rw [ei]; unfold InR; omega
          have ed : 0 ≤ st.tdiv m1 ∧ st.tdiv m1 ≤ st := by
            rw [Int.tdiv_eq_ediv_of_nonneg j0]
            exact ⟨Int.ediv_nonneg j0 (by omega), Int.ediv_le_self _ j0⟩
          have y2 : InR (st.tdiv m1) := by unfold InR; omega
          have ew := wrap8 hbi
          have y3 : InR (IntKind.i64.wrap (b1 (sn % m1)) + st.tdiv m1) := by rw [ew]; unfold InR; omega
          have y4 : (((q.length + 1 : Nat) : Int)) ≠ 0 := by omega
          obtain ⟨kk, hkk, ek⟩ : ∃ kk : Nat, kk < q.length + 1 ∧ (IntKind.i64.wrap (b1 (sn % m1)) + st.tdiv m1).tmod ((q.length + 1 : Nat) : Int) = kk := by
            rw [ew, Int.tmod_eq_emod_of_nonneg (by omega)]
            have h2 := Int.emod_nonneg (b1 (sn % m1) + st.tdiv m1) y4
            have h3 := Int.emod_lt_of_pos (b1 (sn % m1) + st.tdiv m1) (show (0 : Int) < ((q.length + 1 : Nat) : Int) by omega)
            exact ⟨_, by omega, (Int.toNat_of_nonneg h2).symm⟩
          have y5 : InR ((IntKind.i64.wrap (b1 (sn % m1)) + st.tdiv m1).tmod ((q.length + 1 : Nat) : Int)) := by rw [ek]; unfold InR; omega
          have hlen : ((y :: q).reverse).length = q.length + 1 := by rw [List.length_reverse, List.length_cons]
          obtain ⟨x, hx⟩ : ∃ x, (y :: q).reverse[kk]? = some x := ⟨_, List.getElem?_eq_getElem (by rw [hlen]; exact hkk)⟩
          obtain ⟨xi, rfl, hxi, h3⟩ := hNm x (List.mem_reverse.1 (List.mem_of_getElem? hx))
          have hgx := fun o (ho : o = kk) => gI_get hx ho
          have hgv := hbg s.2 xi (0 + (xi : Int).toNat * 1) (by omega) hxi
          have hpv := hbp s.2 xi (0 + (xi : Int).toNat * 1) (s.2 xi + 1) (by omega) hxi
          have hsv := fun ρ => hbw ρ s.2 xi 1 (0 + (xi : Int).toNat * 1) (by omega) hxi
          have hvr := hrs xi hxi
          have hmm := hhit s xi j1 hxi h3
          have hp1 := hpt s xi hxi
          have kH3 := kH1 s xi j1 hxi
          (try dsimp only at hvr hmm hp1 h3)
          (conv => whnf); (repeat' (first | ((with_reducible refine ifb_mk (fun hc => ?_) (fun hc => ?_)) <;> ((try simp only [decide_eq_true_eq, decide_eq_false_iff_not, Bool.not_eq_true', Bool.not_eq_false', Int.not_lt, Int.not_le, ne_eq, Decidable.not_not, beq_iff_eq, List.cons.injEq, and_true] at hc); (first | (exfalso; omega) | exact absurd True.intro hc | conv => whnf))) | ((with_reducible refine And.intro True.intro ?_); conv => whnf) | ((with_reducible refine grd_and ?_); refine And.intro (hi) ?_; conv => whnf) | ((with_reducible refine grd_and ?_); refine And.intro (hxi) ?_; conv => whnf) | ((with_reducible refine grd_and ?_); refine And.intro (hkk) ?_; conv => whnf) | ((with_reducible refine grd_and ?_); refine And.intro (him) ?_; conv => whnf) | ((with_reducible refine grd_and ?_); refine And.intro (y0) ?_; conv => whnf) | ((with_reducible refine grd_and ?_); refine And.intro (y1) ?_; conv => whnf) | ((with_reducible refine grd_and ?_); refine And.intro (y2) ?_; conv => whnf) | ((with_reducible refine grd_and ?_); refine And.intro (y3) ?_; conv => whnf) | ((with_reducible refine grd_and ?_); refine And.intro (y4) ?_; conv => whnf) | ((with_reducible refine grd_and ?_); refine And.intro (y5) ?_; conv => whnf) | (((with_reducible refine idxP_mk (k := sn % m1) ?hh ?_); (case hh => exact ei)); conv => whnf) | (((with_reducible refine idxP_mk (k := kk) ?hh ?_); (case hh => exact ek)); conv => whnf) | (refine som_mk (hgx _ (by show 0 + Int.toNat ((IntKind.i64.wrap (b1 (sn % m1)) + st.tdiv m1).tmod ((q.length + 1 : Nat) : Int)) * 1 = kk; rw [ek]; omega)) ?_; conv => whnf) | (refine som_mk (hgv) ?_; conv => whnf) | ((with_reducible refine grd_putN ?_); refine som_mk (a := ?_) ?hh ?_; (case hh => exact hpv); conv => whnf) | ((with_reducible refine CallX.all ?_); refine CallW.of_ok (kH3 _) ?_; conv => whnf) | ((with_reducible refine grd_ex ?_); refine ex_ok (kH3 _) ?_; conv => whnf) | ((with_reducible refine WpR.draw (id := 21) mixed [0, 1, 2, 3, 4, 5, 6, 7, 8, 9, 10, 11, 12, 13, 14, 15, 16] [0, 0, 0, 4, 14, 31, 63, 127, 0, 0, 512, 1792, 4095, 0, 8192, 32767, 65535] ?hh ?_); (case hh => kernel_rfl); conv => whnf) | ((with_reducible refine WpR.draw (id := 22) mixed [0, 1, 2, 3, 4, 5, 6, 7, 8, 9, 10] [0, 1, 0, 4, 0, 0, 0, 96, 224, 511, 1023] ?hh ?_); (case hh => kernel_rfl); conv => whnf) | ((with_reducible refine And.intro ?hh ?_); (case hh => exact condA); conv => whnf) | fail))
          all_goals first | (exfalso; omega) | exact ⟨((false, _), st + 1), [], by dsimp only; omega, ⟨hmm, by dsimp only; omega, by dsimp only; omega, fun h => by cases h⟩, ⟨rfl, rfl, (by (repeat' (first | exact True.intro | rfl | exact gr_ren rfl | exact aV_ren rfl | exact aW_ren rfl rfl | refine And.intro ?_ ?_))), (by (repeat' (first | exact True.intro | rfl | exact gr_ren rfl | exact aV_ren rfl | exact aW_ren rfl rfl | refine And.intro ?_ ?_))), (by (repeat' (first | exact True.intro | rfl | exact gr_ren rfl | exact aV_ren rfl | exact aW_ren rfl rfl | refine And.intro ?_ ?_))), ⟨.inr ⟨_, rfl, hsv _⟩, trivial⟩, rfl, rfl⟩⟩
        · obtain ⟨kk, hkk, ek⟩ : ∃ kk : Nat, kk < q.length + 1 ∧ kk = 0 := ⟨0, by omega, rfl⟩
          have hlen : ((y :: q).reverse).length = q.length + 1 := by rw [List.length_reverse, List.length_cons]
          obtain ⟨x, hx⟩ : ∃ x, (y :: q).reverse[kk]? = some x := ⟨_, List.getElem?_eq_getElem (by rw [hlen]; exact hkk)⟩
          obtain ⟨xi, rfl, hxi, h3⟩ := hNm x (List.mem_reverse.1 (List.mem_of_getElem? hx))
          have hgx := fun o (ho : o = kk) => gI_get hx ho
          have hgv := hbg s.2 xi (0 + (xi : Int).toNat * 1) (by omega) hxi
          have hpv := hbp s.2 xi (0 + (xi : Int).toNat * 1) (s.2 xi + 1) (by omega) hxi
          have hsv := fun ρ => hbw ρ s.2 xi 1 (0 + (xi : Int).toNat * 1) (by omega) hxi
          have hvr := hrs xi hxi
          have hmm := hhit s xi j1 hxi h3
          have hp1 := hpt s xi hxi
          have kH3 := kH1 s xi j1 hxi
          (try dsimp only at hvr hmm hp1 h3)
          (conv => whnf); (repeat' (first | ((with_reducible refine ifb_mk (fun hc => ?_) (fun hc => ?_)) <;> ((try simp only [decide_eq_true_eq, decide_eq_false_iff_not, Bool.not_eq_true', Bool.not_eq_false', Int.not_lt, Int.not_le, ne_eq, Decidable.not_not, beq_iff_eq, List.cons.injEq, and_true] at hc); (first | (exfalso; omega) | exact absurd True.intro hc | conv => whnf))) | ((with_reducible refine And.intro True.intro ?_); conv => whnf) | ((with_reducible refine grd_and ?_); refine And.intro (hi) ?_; conv => whnf) | ((with_reducible refine grd_and ?_); refine And.intro (hxi) ?_; conv => whnf) | ((with_reducible refine grd_and ?_); refine And.intro (hkk) ?_; conv => whnf) | (refine som_mk (hgx _ (by show 0 + Int.toNat 0 * 1 = kk; rw [ek]; rfl)) ?_; conv => whnf) | (refine som_mk (hgv) ?_; conv => whnf) | ((with_reducible refine grd_putN ?_); refine som_mk (a := ?_) ?hh ?_; (case hh => exact hpv); conv => whnf) | ((with_reducible refine CallX.all ?_); refine CallW.of_ok (kH3 _) ?_; conv => whnf) | ((with_reducible refine grd_ex ?_); refine ex_ok (kH3 _) ?_; conv => whnf) | ((with_reducible refine WpR.draw (id := 21) mixed [0, 1, 2, 3, 4, 5, 6, 7, 8, 9, 10, 11, 12, 13, 14, 15, 16] [0, 0, 0, 4, 14, 31, 63, 127, 0, 0, 512, 1792, 4095, 0, 8192, 32767, 65535] ?hh ?_); (case hh => kernel_rfl); conv => whnf) | ((with_reducible refine WpR.draw (id := 22) mixed [0, 1, 2, 3, 4, 5, 6, 7, 8, 9, 10] [0, 1, 0, 4, 0, 0, 0, 96, 224, 511, 1023] ?hh ?_); (case hh => kernel_rfl); conv => whnf) | ((with_reducible refine And.intro ?hh ?_); (case hh => exact condA); conv => whnf) | fail))
          all_goals first | (exfalso; omega) | exact ⟨((false, _), st + 1), [], by dsimp only; omega, ⟨hmm, by dsimp only; omega, by dsimp only; omega, fun h => by cases h⟩, ⟨rfl, rfl, (by (repeat' (first | exact True.intro | rfl | exact gr_ren rfl | exact aV_ren rfl | exact aW_ren rfl rfl | refine And.intro ?_ ?_))), (by (repeat' (first | exact True.intro | rfl | exact gr_ren rfl | exact aV_ren rfl | exact aW_ren rfl rfl | refine And.intro ?_ ?_))), (by (repeat' (first | exact True.intro | rfl | exact gr_ren rfl | exact aV_ren rfl | exact aW_ren rfl rfl | refine And.intro ?_ ?_))), ⟨.inr ⟨_, rfl, hsv _⟩, trivial⟩, rfl, rfl⟩⟩
  | true =>
    have j3 := j3 rfl
    subst j3
    dsimp only at *
    (conv => whnf); (repeat' (first | ((with_reducible refine ifb_mk (fun hc => ?_) (fun hc => ?_)) <;> ((try simp only [decide_eq_true_eq, decide_eq_false_iff_not, Bool.not_eq_true', Bool.not_eq_false', Int.not_lt, Int.not_le, ne_eq, Decidable.not_not, beq_iff_eq, List.cons.injEq, and_true] at hc); (first | (exfalso; omega) | exact absurd True.intro hc | conv => whnf))) | ((with_reducible refine And.intro True.intro ?_); conv => whnf) | ((with_reducible refine And.intro ?hh ?_); (case hh => exact condA); conv => whnf) | fail))
    refine WpR.loopA (ι := Nat × List Int) [5] [0, 1, 2, 5, 6, 8, 9, 10] [5] [] 6 (fun p => [(11, grV 5 p.2.length), (12, .int .i64 p.1)]) (fun p => [(5, grB 1 (gR eI p.2) p.2.length)]) (fun p => k - p.1) (fun p => p.1 ≤ k ∧ p.2 = NQ p.1) ?_ ((0, [])) (⟨Nat.zero_le _, hN0.symm⟩) [] ⟨rfl, rfl, (by (repeat' (first | exact True.intro | rfl | exact gr_ren rfl | exact aV_ren rfl | exact aW_ren rfl rfl | refine And.intro ?_ ?_))), (by (repeat' (first | exact True.intro | rfl | exact gr_ren rfl | exact aV_ren rfl | exact aW_ren rfl rfl | refine And.intro ?_ ?_))), (by (repeat' (first | exact True.intro | rfl | exact gr_ren rfl | exact aV_ren rfl | exact aW_ren rfl rfl | refine And.intro ?_ ?_))), ⟨.inl rfl, trivial⟩, rfl, rfl⟩ (htv := fun p _ => ⟨grV_lt rfl _, rfl, trivial⟩)
    rintro ⟨i, q⟩ ⟨i1, i2⟩
    dsimp only at i1 i2
    refine WpR.of_vc ?_
    have hql := hNl i
    rw [← i2] at hql
    by_cases hi : i < k
    · have e := hNS i
      rw [← i2] at e
      have hri := hrs i hi
      have hgn := hbg d i (0 + (i : Int).toNat * 1) (by omega) hi
      by_cases h3 : 3 < d i
      · rw [if_pos h3] at e
        (conv => whnf); (repeat' (first | ((with_reducible refine ifb_mk (fun hc => ?_) (fun hc => ?_)) <;> ((try simp only [decide_eq_true_eq, decide_eq_false_iff_not, Bool.not_eq_true', Bool.not_eq_false', Int.not_lt, Int.not_le, ne_eq, Decidable.not_not, beq_iff_eq, List.cons.injEq, and_true] at hc); (first | (exfalso; omega) | exact absurd True.intro hc | conv => whnf))) | ((with_reducible refine And.intro True.intro ?_); conv => whnf) | ((with_reducible refine grd_and ?_); refine And.intro (hi) ?_; conv => whnf) | (refine som_mk (hgn) ?_; conv => whnf) | (refine AppX.gr (n := 1) (L := gR eI q) (len := q.length) rfl rfl (gI_len q) (gI_one q) Nat.zero_lt_one (by omega) ?_; conv => whnf) | ((with_reducible refine And.intro ?hh ?_); (case hh => exact condA); conv => whnf) | fail))
        all_goals first | (exfalso; omega) | exact ⟨(i + 1, (i : Int) :: q), [(5, 7)], by dsimp only; omega, ⟨by dsimp only; omega, e.symm⟩, Back.auto⟩
      · rw [if_neg h3] at e
        (conv => whnf); (repeat' (first | ((with_reducible refine ifb_mk (fun hc => ?_) (fun hc => ?_)) <;> ((try simp only [decide_eq_true_eq, decide_eq_false_iff_not, Bool.not_eq_true', Bool.not_eq_false', Int.not_lt, Int.not_le, ne_eq, Decidable.not_not, beq_iff_eq, List.cons.injEq, and_true] at hc); (first | (exfalso; omega) | exact absurd True.intro hc | conv => whnf))) | ((with_reducible refine And.intro True.intro ?_); conv => whnf) | ((with_reducible refine grd_and ?_); refine And.intro (hi) ?_; conv => whnf) | (refine som_mk (hgn) ?_; conv => whnf) | ((with_reducible refine And.intro ?hh ?_); (case hh => exact condA); conv => whnf) | fail))
        all_goals first | (exfalso; omega) | exact ⟨(i + 1, q), [], by dsimp only; omega, ⟨by dsimp only; omega, e.symm⟩, Back.auto⟩
    · have ei : i = k := by omega
      rw [ei] at i2
      rw [← i2] at hNm hNn
      cases q with
      | nil =>
        have hflat := hNn rfl
        have hend := huniq _ j1 hflat
        dsimp only at hend
        (conv => whnf); (repeat' (first | ((with_reducible refine ifb_mk (fun hc => ?_) (fun hc => ?_)) <;> ((try simp only [decide_eq_true_eq, decide_eq_false_iff_not, Bool.not_eq_true', Bool.not_eq_false', Int.not_lt, Int.not_le, ne_eq, Decidable.not_not, beq_iff_eq, List.cons.injEq, and_true] at hc); (first | (exfalso; omega) | exact absurd True.intro hc | conv => whnf))) | ((with_reducible refine And.intro True.intro ?_); conv => whnf) | ((with_reducible refine grd_and ?_); refine And.intro (hi) ?_; conv => whnf) | ((with_reducible refine CallX.all ?_); refine CallW.of_ok (kLS _ _ _ _ (fun i hi => (hend i hi).1) (hsl _ rfl)) ?_; conv => whnf) | ((with_reducible refine grd_ex ?_); refine ex_ok (kLS _ _ _ _ (fun i hi => (hend i hi).2) (hslB _ _ rfl)) ?_; conv => whnf) | ((with_reducible refine CallX.all ?_); refine CallW.of_ok (kLS _ _ _ _ (fun i hi => (hend i hi).2) (hslB _ _ rfl)) ?_; conv => whnf) | ((with_reducible refine CallX.all ?_); refine CallW.of_ok (kWk _) ?_; conv => whnf) | ((with_reducible refine grd_ex ?_); refine ex_ok (kWk _) ?_; conv => whnf) | ((with_reducible refine And.intro ?hh ?_); (case hh => exact condA); conv => whnf) | fail))
        all_goals first | (refine ⟨[], ?_, rfl, rfl, trivial, trivs⟩; simp only [renV, renL]; (first | done | rfl | (simp; done) | (simp; omega) | grind)) | (exfalso; omega)
      | cons y q =>
        have hq36 : q.length + 1 ≤ k := by rw [List.length_cons] at hql; omega
        by_cases h0 : 0 < m1
        · obtain ⟨sn, hsn⟩ : ∃ sn : Nat, st = sn := ⟨st.toNat, by omega⟩
          have him : sn % m1 < m1 := Nat.mod_lt _ h0
          have hbi := hb1 _ him
          have ei : st.tmod m1 = ((sn % m1 : Nat) : Int) := by rw [hsn, Int.tmod_eq_emod_of_nonneg (by omega)]; omega
          have y0 : (m1 : Int) ≠ 0 := by omega
          have y1 : InR (st.tmod m1) := by rw [ei]; unfold InR; omega
          have ed : 0 ≤ st.tdiv m1 ∧ st.tdiv m1 ≤ st := by
            rw [Int.tdiv_eq_ediv_of_nonneg j0]
            exact ⟨Int.ediv_nonneg j0 (by omega), Int.ediv_le_self _ j0⟩
          have y2 : InR (st.tdiv m1) := by unfold InR; omega
          have ew := wrap8 hbi
          have y3 : InR (IntKind.i64.wrap (b1 (sn % m1)) + st.tdiv m1) := by rw [ew]; unfold InR; omega
          have y4 : (((q.length + 1 : Nat) : Int)) ≠ 0 := by omega
          obtain ⟨kk, hkk, ek⟩ : ∃ kk : Nat, kk < q.length + 1 ∧ (IntKind.i64.wrap (b1 (sn % m1)) + st.tdiv m1).tmod ((q.length + 1 : Nat) : Int) = kk := by
            rw [ew, Int.tmod_eq_emod_of_nonneg (by omega)]
            have h2 := Int.emod_nonneg (b1 (sn % m1) + st.tdiv m1) y4
            have h3 := Int.emod_lt_of_pos (b1 (sn % m1) + st.tdiv m1) (show (0 : Int) < ((q.length + 1 : Nat) : Int) by omega)
            exact ⟨_, by omega, (Int.toNat_of_nonneg h2).symm⟩
          have y5 : InR ((IntKind.i64.wrap (b1 (sn % m1)) + st.tdiv m1).tmod ((q.length + 1 : Nat) : Int)) := by rw [ek]; unfold InR; omega
          have hlen : ((y :: q).reverse).length = q.length + 1 := by rw [List.length_reverse, List.length_cons]
          obtain ⟨x, hx⟩ : ∃ x, (y :: q).reverse[kk]? = some x := ⟨_, List.getElem?_eq_getElem (by rw [hlen]; exact hkk)⟩
          obtain ⟨xi, rfl, hxi, h3⟩ := hNm x (List.mem_reverse.1 (List.mem_of_getElem? hx))
          have hgx := fun o (ho : o = kk) => gI_get hx ho
          have hgv := hbg (fun _ => 0) xi (0 + (xi : Int).toNat * 1) (by omega) hxi
          have hpv := hbp (fun _ => 0) xi (0 + (xi : Int).toNat * 1) ((fun _ => 0) xi + 1) (by omega) hxi
          have hsv := fun ρ => hbw ρ (fun _ => 0) xi 1 (0 + (xi : Int).toNat * 1) (by omega) hxi
          have hvr := hrs xi hxi
          have hmm := hhit (d, fun _ => 0) xi j1 hxi h3
          have hp1 := hpt (d, fun _ => 0) xi hxi
          have kH4 := kH2 xi hxi
          (try dsimp only at hvr hmm hp1 h3)
          (conv => whnf); (repeat' (first | ((with_reducible refine ifb_mk (fun hc => ?_) (fun hc => ?_)) <;> ((try simp only [decide_eq_true_eq, decide_eq_false_iff_not, Bool.not_eq_true', Bool.not_eq_false', Int.not_lt, Int.not_le, ne_eq, Decidable.not_not, beq_iff_eq, List.cons.injEq, and_true] at hc); (first | (exfalso; omega) | exact absurd True.intro hc | conv => whnf))) | ((with_reducible refine And.intro True.intro ?_); conv => whnf) | ((with_reducible refine grd_and ?_); refine And.intro (hi) ?_; conv => whnf) | ((with_reducible refine grd_and ?_); refine And.intro (hxi) ?_; conv => whnf) | ((with_reducible refine grd_and ?_); refine And.intro (hkk) ?_; conv => whnf) | ((with_reducible refine grd_and ?_); refine And.intro (him) ?_; conv => whnf) | ((with_reducible refine grd_and ?_); refine And.intro (y0) ?_; conv => whnf) | ((with_reducible refine grd_and ?_); refine And.intro (y1) ?_; conv => whnf) | ((with_reducible refine grd_and ?_); refine And.intro (y2) ?_; conv => whnf) | ((with_reducible refine grd_and ?_); refine And.intro (y3) ?_; conv => whnf) | ((with_reducible refine grd_and ?_); refine And.intro (y4) ?_; conv => whnf) | ((with_reducible refine grd_and ?_); refine And.intro (y5) ?_; conv => whnf) | (((with_reducible refine idxP_mk (k := sn % m1) ?hh ?_); (case hh => exact ei)); conv => whnf) | (((with_reducible refine idxP_mk (k := kk) ?hh ?_); (case hh => exact ek)); conv => whnf) | (refine som_mk (hgx _ (by show 0 + Int.toNat ((IntKind.i64.wrap (b1 (sn % m1)) + st.tdiv m1).tmod ((q.length + 1 : Nat) : Int)) * 1 = kk; rw [ek]; omega)) ?_; conv => whnf) | (refine som_mk (hgv) ?_; conv => whnf) | ((with_reducible refine grd_putN ?_); refine som_mk (a := ?_) ?hh ?_; (case hh => exact hpv); conv => whnf) | ((with_reducible refine CallX.all ?_); refine CallW.of_ok (kH4 _ _ (hsl _ rfl)) ?_; conv => whnf) | ((with_reducible refine grd_ex ?_); refine ex_ok (kH4 _ _ (hsl _ rfl)) ?_; conv => whnf) | ((with_reducible refine WpR.draw (id := 21) mixed [0, 1, 2, 3, 4, 5, 6, 7, 8, 9, 10, 11, 12, 13, 14, 15, 16] [0, 0, 0, 4, 14, 31, 63, 127, 0, 0, 512, 1792, 4095, 0, 8192, 32767, 65535] ?hh ?_); (case hh => kernel_rfl); conv => whnf) | ((with_reducible refine WpR.draw (id := 22) mixed [0, 1, 2, 3, 4, 5, 6, 7, 8, 9, 10] [0, 1, 0, 4, 0, 0, 0, 96, 224, 511, 1023] ?hh ?_); (case hh => kernel_rfl); conv => whnf) | ((with_reducible refine And.intro ?hh ?_); (case hh => exact condA); conv => whnf) | fail))
          all_goals first | (exfalso; omega) | exact ⟨((false, _), st + 1), [], by dsimp only; omega, ⟨hmm, by dsimp only; omega, by dsimp only; omega, fun h => by cases h⟩, ⟨rfl, rfl, (by (repeat' (first | exact True.intro | rfl | exact gr_ren rfl | exact aV_ren rfl | exact aW_ren rfl rfl | refine And.intro ?_ ?_))), (by (repeat' (first | exact True.intro | rfl | exact gr_ren rfl | exact aV_ren rfl | exact aW_ren rfl rfl | refine And.intro ?_ ?_))), (by (repeat' (first | exact True.intro | rfl | exact gr_ren rfl | exact aV_ren rfl | exact aW_ren rfl rfl | refine And.intro ?_ ?_))), ⟨.inr ⟨_, rfl, hsv _⟩, trivial⟩, rfl, rfl⟩⟩
        · obtain ⟨kk, hkk, ek⟩ : ∃ kk : Nat, kk < q.length + 1 ∧ kk = 0 := ⟨0, by omega, rfl⟩
          have hlen : ((y :: q).reverse).length = q.length + 1 := by rw [List.length_reverse, List.length_cons]
          obtain ⟨x, hx⟩ : ∃ x, (y :: q).reverse[kk]? = some x := ⟨_, List.getElem?_eq_getElem (by rw [hlen]; exact hkk)⟩
          obtain ⟨xi, rfl, hxi, h3⟩ := hNm x (List.mem_reverse.1 (List.mem_of_getElem? hx))
          have hgx := fun o (ho : o = kk) => gI_get hx ho
          have hgv := hbg (fun _ => 0) xi (0 + (xi : Int).toNat * 1) (by omega) hxi
          have hpv := hbp (fun _ => 0) xi (0 + (xi : Int).toNat * 1) ((fun _ => 0) xi + 1) (by omega) hxi
          have hsv := fun ρ => hbw ρ (fun _ => 0) xi 1 (0 + (xi : Int).toNat * 1) (by omega) hxi
          have hvr := hrs xi hxi
          have hmm := hhit (d, fun _ => 0) xi j1 hxi h3
          have hp1 := hpt (d, fun _ => 0) xi hxi
          have kH4 := kH2 xi hxi
          (try dsimp only at hvr hmm hp1 h3)
          (conv => whnf); (repeat' (first | ((with_reducible refine ifb_mk (fun hc => ?_) (fun hc => ?_)) <;> ((try simp only [decide_eq_true_eq, decide_eq_false_iff_not, Bool.not_eq_true', Bool.not_eq_false', Int.not_lt, Int.not_le, ne_eq, Decidable.not_not, beq_iff_eq, List.cons.injEq, and_true] at hc); (first | (exfalso; omega) | exact absurd True.intro hc | conv => whnf))) | ((with_reducible refine And.intro True.intro ?_); conv => whnf) | ((with_reducible refine grd_and ?_); refine And.intro (hi) ?_; conv => whnf) | ((with_reducible refine grd_and ?_); refine And.intro (hxi) ?_; conv => whnf) | ((with_reducible refine grd_and ?_); refine And.intro (hkk) ?_; conv => whnf) | (refine som_mk (hgx _ (by show 0 + Int.toNat 0 * 1 = kk; rw [ek]; rfl)) ?_; conv => whnf) | (refine som_mk (hgv) ?_; conv => whnf) | ((with_reducible refine grd_putN ?_); refine som_mk (a := ?_) ?hh ?_; (case hh => exact hpv); conv => whnf) | ((with_reducible refine CallX.all ?_); refine CallW.of_ok (kH4 _ _ (hsl _ rfl)) ?_; conv => whnf) | ((with_reducible refine grd_ex ?_); refine ex_ok (kH4 _ _ (hsl _ rfl)) ?_; conv => whnf) | ((with_reducible refine WpR.draw (id := 21) mixed [0, 1, 2, 3, 4, 5, 6, 7, 8, 9, 10, 11, 12, 13, 14, 15, 16] [0, 0, 0, 4, 14, 31, 63, 127, 0, 0, 512, 1792, 4095, 0, 8192, 32767, 65535] ?hh ?_); (case hh => kernel_rfl); conv => whnf) | ((with_reducible refine WpR.draw (id := 22) mixed [0, 1, 2, 3, 4, 5, 6, 7, 8, 9, 10] [0, 1, 0, 4, 0, 0, 0, 96, 224, 511, 1023] ?hh ?_); (case hh => kernel_rfl); conv => whnf) | ((with_reducible refine And.intro ?hh ?_); (case hh => exact condA); conv => whnf) | fail))
          all_goals first | (exfalso; omega) | exact ⟨((false, _), st + 1), [], by dsimp only; omega, ⟨hmm, by dsimp only; omega, by dsimp only; omega, fun h => by cases h⟩, ⟨rfl, rfl, (by (repeat' (first | exact True.intro | rfl | exact gr_ren rfl | exact aV_ren rfl | exact aW_ren rfl rfl | refine And.intro ?_ ?_))), (by (repeat' (first | exact True.intro | rfl | exact gr_ren rfl | exact aV_ren rfl | exact aW_ren rfl rfl | refine And.intro ?_ ?_))), (by (repeat' (first | exact True.intro | rfl | exact gr_ren rfl | exact aV_ren rfl | exact aW_ren rfl rfl | refine And.intro ?_ ?_))), ⟨.inr ⟨_, rfl, hsv _⟩, trivial⟩, rfl, rfl⟩⟩
end Go.Proofs.H
