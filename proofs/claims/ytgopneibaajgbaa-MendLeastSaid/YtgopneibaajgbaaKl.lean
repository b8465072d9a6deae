/- What the functions answer that the laws call, one after another (Kl). -/
import Derived.Test.YtgopneibaajgbaaAs6
import Derived.Test.YtgopneibaajgbaaL5
import Derived.Test.YtgopneibaajgbaaTh
import Derived.Test.YtgopneibaajgbaaR2
import Derived.Test.YtgopneibaajgbaaG0
import Derived.Test.YtgopneibaajgbaaWk
import Derived.Test.YtgopneibaajgbaaRead

set_option linter.unusedVariables false
namespace Go.Proofs.H
open Go.As
set_option maxRecDepth 20000
set_option linter.unusedVariables false
set_option linter.unusedSimpArgs false

/-! ### MendLeast -/

def cG (b : Nat → Int) (i : Nat) : List V := [.int .i8 (b i)]
theorem wrapI8 {r : Int} (h : -128 ≤ r ∧ r ≤ 127) : IntKind.i64.wrap r = r := by
  have e : IntKind.i64.wrap r = if r % 18446744073709551616 ≥ 9223372036854775808 then r % 18446744073709551616 - 18446744073709551616 else r % 18446744073709551616 := by
    simp [IntKind.wrap, IntKind.bits, IntKind.signed]
  rw [e]
  split <;> omega
/-- How many blows are meant at a place. -/
def owE (m : Nat) (b u : Nat → Int) (j : Nat) : Int := match ilt 0 (u j + IntKind.i64.wrap (b (j % m))) with
  | true => u j + IntKind.i64.wrap (b (j % m))
  | false => 0
def owF (m : Nat) (b u : Nat → Int) (j : Nat) : Int := if 0 < m then owE m b u j else u j
theorem owF_rng {m : Nat} {b u : Nat → Int} (hb : ∀ i, i < m → -128 ≤ b i ∧ b i ≤ 127) {j : Nat} (hu : 0 ≤ u j ∧ u j ≤ 6480) : 0 ≤ owF m b u j ∧ owF m b u j ≤ 6607 := by
  unfold owF
  split
  · rename_i h
    have h1 := hb _ (Nat.mod_lt j h)
    unfold owE
    rw [wrapI8 h1, ilt_eq]
    by_cases hc : 0 < u j + b (j % m)
    · rw [decide_eq_true hc]; dsimp only; omega
    · rw [decide_eq_false hc]; dsimp only; omega
  · omega
def fwB (f u : Nat → Int) : Nat → Bool
  | 0 => false
  | j + 1 => fwB f u j || decide (f j < u j)
theorem fwB_f {f u : Nat → Int} : ∀ n, (∀ j, j < n → u j ≤ f j) → fwB f u n = false
  | 0, _ => rfl
  | n + 1, h => by
    show (fwB f u n || decide (f n < u n)) = false
    rw [fwB_f n fun j hj => h j (by omega), decide_eq_false (by have := h n (Nat.lt_succ_self n); omega)]
    rfl
def lsL (f : Nat → Int) : Nat → List Int
  | 0 => []
  | i + 1 => f i :: lsL f i
theorem lsL_len (f : Nat → Int) : ∀ i, (lsL f i).length = i
  | 0 => rfl
  | i + 1 => by show (lsL f i).length + 1 = _; rw [lsL_len f i]
theorem lsL_rev (f : Nat → Int) : ∀ n, gR eI (lsL f n) = arrV n fun k => .int .i64 (f k)
  | 0 => rfl
  | n + 1 => by
    have e : gR eI (lsL f (n + 1)) = gR eI (lsL f n) ++ [.int .i64 (f n)] := rfl
    rw [e, lsL_rev f n]
    unfold arrV
    rw [List.range_succ, List.map_append]
    rfl
section
variable {W H n : Nat} {d : Nat → Int}
/-- CheckBlows of a list of one's own. -/
theorem cb_own (p : Pv W H n d) (f : Nat → Int) (hf : ∀ i, i < n → 0 ≤ f i ∧ f i ≤ 1000000) (z : Bool) (hz : z = allF n fun j => decide (d j - dl n (adI W H) f j ≤ 3)) (h : As.H) (b cap : Nat) (ex : Bool) (hcap : n ≤ cap) (c : Tr V) (gg : Option (Nat × Nat)) (hb : h.get b = some (.cells c true gg)) (hc : ∀ j, j < n → c.get j = some (.int .i64 (f j))) :
    CallOk Try.prog 25 [plV W H false n d, .sl b 0 n cap ex] h (.int .i64 (if z = true then 0 else 22)) h ∧ CallOk Try.prog 26 [plV W H false n d, .sl b 0 n cap ex] h (.int .i64 (if z = true then 0 else 22)) h := by
  have hz' : z = allF (W * H) fun j => decide (d j - dl (W * H) (adI W H) f j ≤ 3) := by rw [hz, p.hn]
  have t : ThL h [plV W H false n d, .rsl false 1 n (iG f)] [plV W H false n d, .sl b 0 n cap ex] := by
    refine .cons (.same rfl) (.cons (.sl hb (fun h => by cases h) hcap (fun j hj => rfl) fun j hj k v hk => ?_) .nil)
    match k with
    | 0 =>
      have hv : V.int .i64 (f j) = v := by simpa [iG] using hk
      subst hv
      exact ⟨by rw [show 0 + j * 1 + 0 = j from by omega]; exact hc j hj, rfl⟩
    | k + 1 => simp [iG] at hk
  exact ⟨CallOk.thaw (checkBlows_ok As.H.empty W H p.hw p.hh false n d p.hn p.hd false n f p.hn hf z hz') rfl h t, CallOk.thaw (checkBlowsR_ok As.H.empty W H p.hw p.hh n d p.hn p.hd false n f p.hn hf z hz') rfl h t⟩
end
set_option maxHeartbeats 16000000 in
theorem lawLeast (h : As.H) (W H : Int) (k : Nat) (d : Nat → Int) (hk : k ≤ 9223372036854775807) (m : Nat) (b : Nat → Int) (hm : m ≤ 9223372036854775807) (hb : ∀ i, i < m → -128 ≤ b i ∧ b i ≤ 127) (c : Int) (hc : 0 ≤ c ∧ c ≤ 255) :
    CallOk Try.prog 8 [plV W H false k d, .rsl false 1 m (cG b), .int .u8 c] h (.bool true) h := by
  have kWk := fun h : As.H => wwhole.everywhere rfl h
  rcases fine_split W H k d hk with ⟨w, hh, rfl, rfl, p⟩ | kF
  rotate_left
  · refine CallOk.run0 Try.func8 rfl rfl rfl rfl rfl (WpR.of_vc ?_)
    (conv => whnf); (repeat' (first | ((with_reducible refine ifb_mk (fun hc => ?_) (fun hc => ?_)) <;> ((try simp only [decide_eq_true_eq, decide_eq_false_iff_not, Bool.not_eq_true', Bool.not_eq_false', Int.not_lt, Int.not_le, ne_eq, Decidable.not_not, beq_iff_eq, List.cons.injEq, and_true] at hc); (first | (exfalso; omega) | exact absurd True.intro hc | conv => whnf))) | ((with_reducible refine And.intro True.intro ?_); conv => whnf) | ((with_reducible refine CallX.all ?_); refine CallW.of_ok (kF _) ?_; conv => whnf) | ((with_reducible refine CallX.all ?_); refine CallW.of_ok (kWk _) ?_; conv => whnf) | ((with_reducible refine And.intro ?hh ?_); (case hh => exact condA); conv => whnf) | fail))
    all_goals (refine ⟨[], ?_, rfl, rfl, trivial, trivs⟩; simp only [renV, renL]; (first | done | rfl | (simp; done) | (simp; omega) | grind))
  have hle := p.le
  have k0 := fun h' => fineV p h'
  by_cases hl1 : 100 < m
  · refine CallOk.run0 Try.func8 rfl rfl rfl rfl rfl (WpR.of_vc ?_)
    (conv => whnf); (repeat' (first | ((with_reducible refine ifb_mk (fun hc => ?_) (fun hc => ?_)) <;> ((try simp only [decide_eq_true_eq, decide_eq_false_iff_not, Bool.not_eq_true', Bool.not_eq_false', Int.not_lt, Int.not_le, ne_eq, Decidable.not_not, beq_iff_eq, List.cons.injEq, and_true] at hc); (first | (exfalso; omega) | exact absurd True.intro hc | conv => whnf))) | ((with_reducible refine And.intro True.intro ?_); conv => whnf) | ((with_reducible refine CallX.all ?_); refine CallW.of_ok (k0 _) ?_; conv => whnf) | ((with_reducible refine CallX.all ?_); refine CallW.of_ok (kWk _) ?_; conv => whnf) | ((with_reducible refine And.intro ?hh ?_); (case hh => exact condA); conv => whnf) | fail))
    all_goals first | (refine ⟨[], ?_, rfl, rfl, trivial, trivs⟩; simp only [renV, renL]; (first | done | rfl | (simp; done) | (simp; omega) | grind)) | (exfalso; omega)
  obtain ⟨i, hi, ei⟩ : ∃ i : Nat, i < k ∧ (IntKind.i64.wrap c).tmod k = i := by
    rw [wrap8 hc]
    have h1 : c.tmod k = c % k := Int.tmod_eq_emod_of_nonneg hc.1
    have h2 : 0 ≤ c % k := Int.emod_nonneg _ (by omega)
    have h3 : c % k < k := Int.emod_lt_of_pos _ (by omega)
    exact ⟨(c % k).toNat, by omega, by omega⟩
  have y0 : (k : Int) ≠ 0 := by omega
  have y1 : InR ((IntKind.i64.wrap c).tmod k) := by rw [ei]; unfold InR; omega
  have kf := fun h' => flatV p h'
  have hu := p.u
  have hml := p.mid.least
  have hself : ∀ j, j < k → d j - dl k (adI w hh) (uF w hh d) j ≤ 3 := fun j hj => by
    have h1 := p.mid.eq j hj
    have h2 := p.flat j hj
    dsimp only at h1
    omega
  dsimp only at hml
  have kc0 := fun h' => checkBlows_ok h' w hh p.hw p.hh false k d p.hn p.hd false k (uF w hh d) p.hn (fun j hj => by have := hu j hj; omega) true (by
    refine (allF_t fun j hj => decide_eq_true ?_).symm
    have := hself j (by rw [p.hn]; exact hj)
    rw [← p.hn]; exact this)
  rw [if_pos rfl] at kc0
  have hcb := fun f hf z hz h' b' cap ex hcap c' gg hb' hc' => cb_own p f hf z hz h' b' cap ex hcap c' gg hb' hc'
  clear p
  generalize uF w hh d = u at *
  generalize xF w hh d = x at *
  have hor : ∀ j, j < k → 0 ≤ owF m b u j ∧ owF m b u j ≤ 6607 := fun j hj => owF_rng hb (hu j hj)
  have hos : ∀ j, owF m b u j = if 0 < m then owE m b u j else u j := fun j => rfl
  have hoe : ∀ j, owE m b u j = (match ilt 0 (u j + IntKind.i64.wrap (b (j % m))) with
    | true => u j + IntKind.i64.wrap (b (j % m))
    | false => 0) := fun j => rfl
  have hfs : ∀ j, fwB (owF m b u) u (j + 1) = (fwB (owF m b u) u j || decide (owF m b u j < u j)) := fun j => rfl
  have hf0 : fwB (owF m b u) u 0 = false := rfl
  have hff := @fwB_f (owF m b u) u k
  have kO := hcb (owF m b u) (fun j hj => by have := hor j hj; omega) _ rfl
  have hz : (allF k fun j => decide (d j - dl k (adI w hh) (owF m b u) j ≤ 3)) = true → fwB (owF m b u) u k = false := fun hz => hff fun j hj => hml (owF m b u) (fun j hj => (hor j hj).1) (fun j hj => of_decide_eq_true (allF_iff.1 hz j hj)) j hj
  generalize (allF k fun j => decide (d j - dl k (adI w hh) (owF m b u) j ≤ 3)) = z at *
  have hO0 : lsL (owF m b u) 0 = [] := rfl
  have hOs : ∀ j, lsL (owF m b u) (j + 1) = owF m b u j :: lsL (owF m b u) j := fun j => rfl
  have hOl := lsL_len (owF m b u)
  have hOr := lsL_rev (owF m b u)
  have hU0 : lsL u 0 = [] := rfl
  have hUs : ∀ j, lsL u (j + 1) = u j :: lsL u j := fun j => rfl
  have hUl := lsL_len u
  have hUr := lsL_rev u
  generalize fwB (owF m b u) u = FB at *
  generalize lsL (owF m b u) = OL at *
  generalize lsL u = UL at *
  obtain ⟨ow, how⟩ : ∃ ow, owF m b u = ow := ⟨_, rfl⟩
  rw [how] at hor hos hfs kO hOs hOr
  clear how hff
  refine CallOk.run0 Try.func8 rfl rfl rfl rfl rfl (WpR.of_vc ?_)
  (conv => whnf); (repeat' (first | ((with_reducible refine ifb_mk (fun hc => ?_) (fun hc => ?_)) <;> ((try simp only [decide_eq_true_eq, decide_eq_false_iff_not, Bool.not_eq_true', Bool.not_eq_false', Int.not_lt, Int.not_le, ne_eq, Decidable.not_not, beq_iff_eq, List.cons.injEq, and_true] at hc); (first | (exfalso; omega) | exact absurd True.intro hc | conv => whnf))) | ((with_reducible refine And.intro True.intro ?_); conv => whnf) | ((with_reducible refine CallX.all ?_); refine CallW.of_ok (k0 _) ?_; conv => whnf) | ((with_reducible refine CallX.all ?_); refine CallW.of_ok (kf _) ?_; conv => whnf) | ((with_reducible refine CallX.all ?_); refine CallW.of_ok (kc0 _) ?_; conv => whnf) | ((with_reducible refine grd_ex ?_); refine ex_ok (kc0 _) ?_; conv => whnf) | ((with_reducible refine grd_and ?_); refine And.intro (y0) ?_; conv => whnf) | ((with_reducible refine grd_and ?_); refine And.intro (y1) ?_; conv => whnf) | ((with_reducible refine And.intro ?hh ?_); (case hh => exact condA); conv => whnf) | fail))
  have hMapA : ∀ l : List Int, ltB 4 (grB 1 (gR eI l) l.length) := fun l => grB_lt (gR_bare eI_bare) _
  have hMapB : ∀ l : List Int, ltB 1000 (grB 1 (gR eI l) l.length) := fun l => grB_lt (gR_bare eI_bare) _
  refine WpR.loopA (ι := Nat × (List Int × List Int)) [2, 3] [1, 3, 8, 13] [2, 3] [] 4 (fun p => [(10, grV 2 p.2.1.length), (11, grV 3 p.2.2.length), (12, .bool (FB p.1)), (14, .int .i64 p.1)]) (fun p => [(2, grB 1 (gR eI p.2.1) p.2.1.length), (3, grB 1 (gR eI p.2.2) p.2.2.length)]) (fun p => k - p.1) (fun p => p.1 ≤ k ∧ p.2.1 = OL p.1 ∧ p.2.2 = UL p.1) ?_ ((0, ([], []))) (⟨Nat.zero_le _, hO0.symm, hU0.symm⟩) [] ⟨rfl, rfl, (by (repeat' (first | exact True.intro | rfl | exact gr_ren rfl | exact aV_ren rfl | exact aW_ren rfl rfl | refine And.intro ?_ ?_))), ⟨rfl, rfl, by rw [hf0]; rfl, rfl, trivial⟩, (by (repeat' (first | exact True.intro | rfl | exact gr_ren rfl | exact aV_ren rfl | exact aW_ren rfl rfl | refine And.intro ?_ ?_))), ⟨.inl rfl, .inl rfl, trivial⟩, rfl, rfl⟩ (htv := fun p _ => ⟨grV_lt rfl _, grV_lt rfl _, rfl, rfl, trivial⟩)
  rintro ⟨j, q1, q2⟩ ⟨j1, j2, j3⟩
  dsimp only at j1 j2 j3
  refine WpR.of_vc ?_
  have hql1 := hOl j
  have hql2 := hUl j
  rw [← j2] at hql1
  rw [← j3] at hql2
  by_cases hjk : j < k
  · have e1 := hOs j
    have e2 := hUs j
    rw [← j2] at e1
    rw [← j3] at e2
    have e3 := hfs j
    have huj := hu j hjk
    have hoj := hor j hjk
    by_cases h0 : 0 < m
    · have e4 := hos j
      rw [if_pos h0, hoe] at e4
      have hjm : j % m < m := Nat.mod_lt _ h0
      have hbj := hb _ hjm
      have hwb := wrapI8 hbj
      have ej : (j : Int).tmod m = ((j % m : Nat) : Int) := by rw [Int.tmod_eq_emod_of_nonneg (by omega)]; omega
      have w0 : (m : Int) ≠ 0 := by omega
      have w1 : InR ((j : Int).tmod m) := by rw [ej]; unfold InR; omega
      have w2 : InR (u j + IntKind.i64.wrap (b (j % m))) := by rw [hwb]; unfold InR; omega
      rw [e4] at e1 e3
      cases hFB : FB j with
      | true =>
        rw [hFB, Bool.true_or] at e3
        (conv => whnf); (repeat' (first | ((with_reducible refine ifb_mk (fun hc => ?_) (fun hc => ?_)) <;> ((try simp only [decide_eq_true_eq, decide_eq_false_iff_not, Bool.not_eq_true', Bool.not_eq_false', Int.not_lt, Int.not_le, ne_eq, Decidable.not_not, beq_iff_eq, List.cons.injEq, and_true] at hc); (first | (exfalso; omega) | exact absurd True.intro hc | conv => whnf))) | ((with_reducible refine And.intro True.intro ?_); conv => whnf) | ((with_reducible refine grd_and ?_); refine And.intro (hjk) ?_; conv => whnf) | ((with_reducible refine grd_and ?_); refine And.intro (w0) ?_; conv => whnf) | ((with_reducible refine grd_and ?_); refine And.intro (w1) ?_; conv => whnf) | ((with_reducible refine grd_and ?_); refine And.intro (w2) ?_; conv => whnf) | ((with_reducible refine grd_and ?_); refine And.intro (hjm) ?_; conv => whnf) | (((with_reducible refine idxP_mk (k := j % m) ?hh ?_); (case hh => exact ej)); conv => whnf) | (refine AppX.gr (n := 1) (L := gR eI q1) (len := q1.length) rfl rfl (gI_len q1) (gI_one q1) Nat.zero_lt_one (by omega) ?_; conv => whnf) | (refine AppX.gr (n := 1) (L := gR eI q2) (len := q2.length) rfl rfl (gI_len q2) (gI_one q2) Nat.zero_lt_one (by omega) ?_; conv => whnf) | ((with_reducible refine And.intro ?hh ?_); (case hh => exact condA); conv => whnf) | fail))
        all_goals first | (exfalso; omega) | exact ⟨(j + 1, (_ :: q1, u j :: q2)), [(2, 5), (3, 7)], by dsimp only; omega, ⟨by dsimp only; omega, e1.symm, e2.symm⟩, ⟨rfl, rfl, (by (repeat' (first | exact True.intro | rfl | exact gr_ren rfl | exact aV_ren rfl | exact aW_ren rfl rfl | refine And.intro ?_ ?_))), ⟨rfl, rfl, by rw [e3]; rfl, rfl, trivial⟩, (by (repeat' (first | exact True.intro | rfl | exact gr_ren rfl | exact aV_ren rfl | exact aW_ren rfl rfl | refine And.intro ?_ ?_))), (by (repeat' (first | exact True.intro | exact Or.inl rfl | exact gr_keep (by first | exact gI_bare _ | exact gT_bare _ | exact gP_bare _) rfl | exact aB_keep (gT_bare _) rfl | exact aC_keep (gT_bare _) rfl | (refine Or.inr ⟨_, rfl, ?_⟩; exact hgs _) | refine And.intro ?_ ?_ | refine Or.inr ⟨_, rfl, ?_⟩ | exact SubQ.same (n := 1000) (Y := []) (fun _ _ _ => rfl) (by first | exact True.intro | exact ltB_all rfl | exact ltB_ofLb (by first | exact bare0_ints | assumption | exact gI_bare _ | exact gT_bare _ | exact gP_bare _ | exact bVs_bare | exact iVs_bare | exact mVs_bare | (intro v hv; (repeat (rcases List.mem_cons.1 hv with rfl | hv; exact rfl)); exact absurd hv (List.not_mem_nil))) | exact ltB_loop rfl rfl | exact hMap _ | exact hMap _ _ | exact hMap2 _ | exact hMap2 _ _ | exact hMapA _ | exact hMapA _ _ | exact hMapB _ | exact hMapB _ _ | exact hMapC _ | exact hMapC _ _ | exact hMapD _ | exact hMapD _ _ | exact grB_lt (by first | exact bare0_ints | assumption | exact gI_bare _ | exact gT_bare _ | exact gP_bare _ | exact bVs_bare | exact iVs_bare | exact mVs_bare | (intro v hv; (repeat (rcases List.mem_cons.1 hv with rfl | hv; exact rfl)); exact absurd hv (List.not_mem_nil))) _ | exact ltB_encL | exact ltB_map0 | assumption) (avB_nil _) rfl | exact SubQ.ofL (by first | rfl | simp) (by first | exact bare0_ints | assumption | exact gI_bare _ | exact gT_bare _ | exact gP_bare _ | exact bVs_bare | exact iVs_bare | exact mVs_bare | (intro v hv; (repeat (rcases List.mem_cons.1 hv with rfl | hv; exact rfl)); exact absurd hv (List.not_mem_nil))) (by first | exact Or.inl rfl | exact Or.inr rfl) | exact SubQ.fin (by (conv => whnf); (repeat' (first | exact True.intro | rfl | exact gr_ren rfl | exact aV_ren rfl | exact aW_ren rfl rfl | refine And.intro ?_ ?_)); done) (fun h => h) (by first | exact Or.inl rfl | exact Or.inr rfl)))), rfl, rfl⟩⟩
      | false =>
        rw [hFB, Bool.false_or] at e3
        (conv => whnf); (repeat' (first | ((with_reducible refine ifb_mk (fun hc => ?_) (fun hc => ?_)) <;> ((try simp only [decide_eq_true_eq, decide_eq_false_iff_not, Bool.not_eq_true', Bool.not_eq_false', Int.not_lt, Int.not_le, ne_eq, Decidable.not_not, beq_iff_eq, List.cons.injEq, and_true] at hc); (first | (exfalso; omega) | exact absurd True.intro hc | conv => whnf))) | ((with_reducible refine And.intro True.intro ?_); conv => whnf) | ((with_reducible refine grd_and ?_); refine And.intro (hjk) ?_; conv => whnf) | ((with_reducible refine grd_and ?_); refine And.intro (w0) ?_; conv => whnf) | ((with_reducible refine grd_and ?_); refine And.intro (w1) ?_; conv => whnf) | ((with_reducible refine grd_and ?_); refine And.intro (w2) ?_; conv => whnf) | ((with_reducible refine grd_and ?_); refine And.intro (hjm) ?_; conv => whnf) | (((with_reducible refine idxP_mk (k := j % m) ?hh ?_); (case hh => exact ej)); conv => whnf) | (refine AppX.gr (n := 1) (L := gR eI q1) (len := q1.length) rfl rfl (gI_len q1) (gI_one q1) Nat.zero_lt_one (by omega) ?_; conv => whnf) | (refine AppX.gr (n := 1) (L := gR eI q2) (len := q2.length) rfl rfl (gI_len q2) (gI_one q2) Nat.zero_lt_one (by omega) ?_; conv => whnf) | ((with_reducible refine And.intro ?hh ?_); (case hh => exact condA); conv => whnf) | fail))
        all_goals first | (exfalso; omega) | exact ⟨(j + 1, (_ :: q1, u j :: q2)), [(2, 5), (3, 7)], by dsimp only; omega, ⟨by dsimp only; omega, e1.symm, e2.symm⟩, ⟨rfl, rfl, (by (repeat' (first | exact True.intro | rfl | exact gr_ren rfl | exact aV_ren rfl | exact aW_ren rfl rfl | refine And.intro ?_ ?_))), ⟨rfl, rfl, by rw [e3]; rfl, rfl, trivial⟩, (by (repeat' (first | exact True.intro | rfl | exact gr_ren rfl | exact aV_ren rfl | exact aW_ren rfl rfl | refine And.intro ?_ ?_))), (by (repeat' (first | exact True.intro | exact Or.inl rfl | exact gr_keep (by first | exact gI_bare _ | exact gT_bare _ | exact gP_bare _) rfl | exact aB_keep (gT_bare _) rfl | exact aC_keep (gT_bare _) rfl | (refine Or.inr ⟨_, rfl, ?_⟩; exact hgs _) | refine And.intro ?_ ?_ | refine Or.inr ⟨_, rfl, ?_⟩ | exact SubQ.same (n := 1000) (Y := []) (fun _ _ _ => rfl) (by first | exact True.intro | exact ltB_all rfl | exact ltB_ofLb (by first | exact bare0_ints | assumption | exact gI_bare _ | exact gT_bare _ | exact gP_bare _ | exact bVs_bare | exact iVs_bare | exact mVs_bare | (intro v hv; (repeat (rcases List.mem_cons.1 hv with rfl | hv; exact rfl)); exact absurd hv (List.not_mem_nil))) | exact ltB_loop rfl rfl | exact hMap _ | exact hMap _ _ | exact hMap2 _ | exact hMap2 _ _ | exact hMapA _ | exact hMapA _ _ | exact hMapB _ | exact hMapB _ _ | exact hMapC _ | exact hMapC _ _ | exact hMapD _ | exact hMapD _ _ | exact grB_lt (by first | exact bare0_ints | assumption | exact gI_bare _ | exact gT_bare _ | exact gP_bare _ | exact bVs_bare | exact iVs_bare | exact mVs_bare | (intro v hv; (repeat (rcases List.mem_cons.1 hv with rfl | hv; exact rfl)); exact absurd hv (List.not_mem_nil))) _ | exact ltB_encL | exact ltB_map0 | assumption) (avB_nil _) rfl | exact SubQ.ofL (by first | rfl | simp) (by first | exact bare0_ints | assumption | exact gI_bare _ | exact gT_bare _ | exact gP_bare _ | exact bVs_bare | exact iVs_bare | exact mVs_bare | (intro v hv; (repeat (rcases List.mem_cons.1 hv with rfl | hv; exact rfl)); exact absurd hv (List.not_mem_nil))) (by first | exact Or.inl rfl | exact Or.inr rfl) | exact SubQ.fin (by (conv => whnf); (repeat' (first | exact True.intro | rfl | exact gr_ren rfl | exact aV_ren rfl | exact aW_ren rfl rfl | refine And.intro ?_ ?_)); done) (fun h => h) (by first | exact Or.inl rfl | exact Or.inr rfl)))), rfl, rfl⟩⟩
    · have e4 := hos j
      rw [if_neg h0] at e4
      rw [e4] at e1 e3
      cases hFB : FB j with
      | true =>
        rw [hFB, Bool.true_or] at e3
        (conv => whnf); (repeat' (first | ((with_reducible refine ifb_mk (fun hc => ?_) (fun hc => ?_)) <;> ((try simp only [decide_eq_true_eq, decide_eq_false_iff_not, Bool.not_eq_true', Bool.not_eq_false', Int.not_lt, Int.not_le, ne_eq, Decidable.not_not, beq_iff_eq, List.cons.injEq, and_true] at hc); (first | (exfalso; omega) | exact absurd True.intro hc | conv => whnf))) | ((with_reducible refine And.intro True.intro ?_); conv => whnf) | ((with_reducible refine grd_and ?_); refine And.intro (hjk) ?_; conv => whnf) | (refine AppX.gr (n := 1) (L := gR eI q1) (len := q1.length) rfl rfl (gI_len q1) (gI_one q1) Nat.zero_lt_one (by omega) ?_; conv => whnf) | (refine AppX.gr (n := 1) (L := gR eI q2) (len := q2.length) rfl rfl (gI_len q2) (gI_one q2) Nat.zero_lt_one (by omega) ?_; conv => whnf) | ((with_reducible refine And.intro ?hh ?_); (case hh => exact condA); conv => whnf) | fail))
        all_goals first | (exfalso; omega) | exact ⟨(j + 1, (_ :: q1, u j :: q2)), [(2, 5), (3, 7)], by dsimp only; omega, ⟨by dsimp only; omega, e1.symm, e2.symm⟩, ⟨rfl, rfl, (by (repeat' (first | exact True.intro | rfl | exact gr_ren rfl | exact aV_ren rfl | exact aW_ren rfl rfl | refine And.intro ?_ ?_))), ⟨rfl, rfl, by rw [e3]; rfl, rfl, trivial⟩, (by (repeat' (first | exact True.intro | rfl | exact gr_ren rfl | exact aV_ren rfl | exact aW_ren rfl rfl | refine And.intro ?_ ?_))), (by (repeat' (first | exact True.intro | exact Or.inl rfl | exact gr_keep (by first | exact gI_bare _ | exact gT_bare _ | exact gP_bare _) rfl | exact aB_keep (gT_bare _) rfl | exact aC_keep (gT_bare _) rfl | (refine Or.inr ⟨_, rfl, ?_⟩; exact hgs _) | refine And.intro ?_ ?_ | refine Or.inr ⟨_, rfl, ?_⟩ | exact SubQ.same (n := 1000) (Y := []) (fun _ _ _ => rfl) (by first | exact True.intro | exact ltB_all rfl | exact ltB_ofLb (by first | exact bare0_ints | assumption | exact gI_bare _ | exact gT_bare _ | exact gP_bare _ | exact bVs_bare | exact iVs_bare | exact mVs_bare | (intro v hv; (repeat (rcases List.mem_cons.1 hv with rfl | hv; exact rfl)); exact absurd hv (List.not_mem_nil))) | exact ltB_loop rfl rfl | exact hMap _ | exact hMap _ _ | exact hMap2 _ | exact hMap2 _ _ | exact hMapA _ | exact hMapA _ _ | exact hMapB _ | exact hMapB _ _ | exact hMapC _ | exact hMapC _ _ | exact hMapD _ | exact hMapD _ _ | exact grB_lt (by first | exact bare0_ints | assumption | exact gI_bare _ | exact gT_bare _ | exact gP_bare _ | exact bVs_bare | exact iVs_bare | exact mVs_bare | (intro v hv; (repeat (rcases List.mem_cons.1 hv with rfl | hv; exact rfl)); exact absurd hv (List.not_mem_nil))) _ | exact ltB_encL | exact ltB_map0 | assumption) (avB_nil _) rfl | exact SubQ.ofL (by first | rfl | simp) (by first | exact bare0_ints | assumption | exact gI_bare _ | exact gT_bare _ | exact gP_bare _ | exact bVs_bare | exact iVs_bare | exact mVs_bare | (intro v hv; (repeat (rcases List.mem_cons.1 hv with rfl | hv; exact rfl)); exact absurd hv (List.not_mem_nil))) (by first | exact Or.inl rfl | exact Or.inr rfl) | exact SubQ.fin (by (conv => whnf); (repeat' (first | exact True.intro | rfl | exact gr_ren rfl | exact aV_ren rfl | exact aW_ren rfl rfl | refine And.intro ?_ ?_)); done) (fun h => h) (by first | exact Or.inl rfl | exact Or.inr rfl)))), rfl, rfl⟩⟩
      | false =>
        rw [hFB, Bool.false_or] at e3
        (conv => whnf); (repeat' (first | ((with_reducible refine ifb_mk (fun hc => ?_) (fun hc => ?_)) <;> ((try simp only [decide_eq_true_eq, decide_eq_false_iff_not, Bool.not_eq_true', Bool.not_eq_false', Int.not_lt, Int.not_le, ne_eq, Decidable.not_not, beq_iff_eq, List.cons.injEq, and_true] at hc); (first | (exfalso; omega) | exact absurd True.intro hc | conv => whnf))) | ((with_reducible refine And.intro True.intro ?_); conv => whnf) | ((with_reducible refine grd_and ?_); refine And.intro (hjk) ?_; conv => whnf) | (refine AppX.gr (n := 1) (L := gR eI q1) (len := q1.length) rfl rfl (gI_len q1) (gI_one q1) Nat.zero_lt_one (by omega) ?_; conv => whnf) | (refine AppX.gr (n := 1) (L := gR eI q2) (len := q2.length) rfl rfl (gI_len q2) (gI_one q2) Nat.zero_lt_one (by omega) ?_; conv => whnf) | ((with_reducible refine And.intro ?hh ?_); (case hh => exact condA); conv => whnf) | fail))
        all_goals first | (exfalso; omega) | exact ⟨(j + 1, (_ :: q1, u j :: q2)), [(2, 5), (3, 7)], by dsimp only; omega, ⟨by dsimp only; omega, e1.symm, e2.symm⟩, ⟨rfl, rfl, (by (repeat' (first | exact True.intro | rfl | exact gr_ren rfl | exact aV_ren rfl | exact aW_ren rfl rfl | refine And.intro ?_ ?_))), ⟨rfl, rfl, by rw [e3]; rfl, rfl, trivial⟩, (by (repeat' (first | exact True.intro | rfl | exact gr_ren rfl | exact aV_ren rfl | exact aW_ren rfl rfl | refine And.intro ?_ ?_))), (by (repeat' (first | exact True.intro | exact Or.inl rfl | exact gr_keep (by first | exact gI_bare _ | exact gT_bare _ | exact gP_bare _) rfl | exact aB_keep (gT_bare _) rfl | exact aC_keep (gT_bare _) rfl | (refine Or.inr ⟨_, rfl, ?_⟩; exact hgs _) | refine And.intro ?_ ?_ | refine Or.inr ⟨_, rfl, ?_⟩ | exact SubQ.same (n := 1000) (Y := []) (fun _ _ _ => rfl) (by first | exact True.intro | exact ltB_all rfl | exact ltB_ofLb (by first | exact bare0_ints | assumption | exact gI_bare _ | exact gT_bare _ | exact gP_bare _ | exact bVs_bare | exact iVs_bare | exact mVs_bare | (intro v hv; (repeat (rcases List.mem_cons.1 hv with rfl | hv; exact rfl)); exact absurd hv (List.not_mem_nil))) | exact ltB_loop rfl rfl | exact hMap _ | exact hMap _ _ | exact hMap2 _ | exact hMap2 _ _ | exact hMapA _ | exact hMapA _ _ | exact hMapB _ | exact hMapB _ _ | exact hMapC _ | exact hMapC _ _ | exact hMapD _ | exact hMapD _ _ | exact grB_lt (by first | exact bare0_ints | assumption | exact gI_bare _ | exact gT_bare _ | exact gP_bare _ | exact bVs_bare | exact iVs_bare | exact mVs_bare | (intro v hv; (repeat (rcases List.mem_cons.1 hv with rfl | hv; exact rfl)); exact absurd hv (List.not_mem_nil))) _ | exact ltB_encL | exact ltB_map0 | assumption) (avB_nil _) rfl | exact SubQ.ofL (by first | rfl | simp) (by first | exact bare0_ints | assumption | exact gI_bare _ | exact gT_bare _ | exact gP_bare _ | exact bVs_bare | exact iVs_bare | exact mVs_bare | (intro v hv; (repeat (rcases List.mem_cons.1 hv with rfl | hv; exact rfl)); exact absurd hv (List.not_mem_nil))) (by first | exact Or.inl rfl | exact Or.inr rfl) | exact SubQ.fin (by (conv => whnf); (repeat' (first | exact True.intro | rfl | exact gr_ren rfl | exact aV_ren rfl | exact aW_ren rfl rfl | refine And.intro ?_ ?_)); done) (fun h => h) (by first | exact Or.inl rfl | exact Or.inr rfl)))), rfl, rfl⟩⟩
  · have ejk : j = k := by omega
    rw [ejk] at j2 j3 hql1 hql2
    have hui2 := hu i hi
    have hgo : ∀ o, o < k → (ofL (gR eI q1) 0).get o = some (.int .i64 (ow o)) := fun o ho => by rw [j2, hOr]; exact arrV_get rfl ho
    have hgu : ∀ a o, o = a → a < k → (ofL (gR eI q2) 0).get o = some (.int .i64 (u a)) := fun a o e ho => by subst e; rw [j3, hUr]; exact arrV_get rfl ho
    have hfl : u i ≠ 0 → false = allF k fun j => decide (d j - dl k (adI w hh) (fun j => if j = i then u j - 1 else u j) j ≤ 3) := fun h0 => by
      cases hb2 : (allF k fun j => decide (d j - dl k (adI w hh) (fun j => if j = i then u j - 1 else u j) j ≤ 3)) with
      | false => rfl
      | true =>
        have h1 := hml (fun j => if j = i then u j - 1 else u j) (fun j hj => by
          have := hu j hj
          split
          · rename_i e; subst e; omega
          · omega) (fun j hj => of_decide_eq_true (allF_iff.1 hb2 j hj)) i hi
        rw [if_pos rfl] at h1
        omega
    have k2 := fun h0 => hcb (fun j => if j = i then u j - 1 else u j) (fun j hj => by
      have := hu j hj
      split
      · rename_i e; subst e
        have : u j ≠ 0 := h0
        omega
      · omega) false (hfl h0)
    obtain ⟨y1', l1, rfl⟩ : ∃ y l, q1 = y :: l := by
      cases q1 with
      | nil => simp at hql1; omega
      | cons y l => exact ⟨y, l, rfl⟩
    obtain ⟨y2', l2, rfl⟩ : ∃ y l, q2 = y :: l := by
      cases q2 with
      | nil => simp at hql2; omega
      | cons y l => exact ⟨y, l, rfl⟩
    have n1 : l1.length + 1 = k := hql1
    have n2 : l2.length + 1 = k := hql2
    have kc1 : ∀ (h' : As.H) (n' : Nat), n' = k → h'.get 2 = some (.cells (ofL (gR eI (y1' :: l1)) 0) true (some (1, n' * 1))) → _ := fun h' n' e hs => kO h' 2 n' false (by omega) (ofL (gR eI (y1' :: l1)) 0) _ hs (fun o ho => hgo o ho)
    have kc1a : ∀ (h' : As.H) (n' : Nat), n' = k → h'.get 2 = some (.cells (ofL (gR eI (y1' :: l1)) 0) true (some (1, n' * 1))) → CallOk Try.prog 25 [plV w hh false k d, .sl 2 0 n' n' false] h' (.int .i64 (if z = true then 0 else 22)) h' := fun h' n' e hs => by subst e; exact (kc1 h' _ rfl hs).1
    have kc1b : ∀ (h' : As.H) (n' : Nat), n' = k → h'.get 2 = some (.cells (ofL (gR eI (y1' :: l1)) 0) true (some (1, n' * 1))) → CallOk Try.prog 26 [plV w hh false k d, .sl 2 0 n' n' false] h' (.int .i64 (if z = true then 0 else 22)) h' := fun h' n' e hs => by subst e; exact (kc1 h' _ rfl hs).2
    have hgi : ∀ o, o = i → (ofL (gR eI (y2' :: l2)) 0).get o = some (.int .i64 (u i)) := fun o e => hgu i o e hi
    have hpi : ∀ (x : Int) o, o = i → putN [V.int .i64 x] (ofL (gR eI (y2' :: l2)) 0) o = some ((ofL (gR eI (y2' :: l2)) 0).set o (.int .i64 x)) := fun x o e => by rw [putN_cons, hgi o e]; rfl
    have ix1 : 0 ≤ (IntKind.i64.wrap c).tmod k := by rw [ei]; omega
    have ix2 : (IntKind.i64.wrap c).tmod k < ((l2.length + 1 : Nat) : Int) := by rw [ei, n2]; omega
    have kc2 : u i ≠ 0 → ∀ (h' : As.H) (n' o : Nat), n' = k → o = i → h'.get 3 = some (.cells ((ofL (gR eI (y2' :: l2)) 0).set o (.int .i64 (u i - 1))) true (some (1, n' * 1))) → CallOk Try.prog 25 [plV w hh false k d, .sl 3 0 n' n' false] h' (.int .i64 22) h' := fun h0 h' n' o e e2 hs => by
      subst e
      exact (k2 h0 h' 3 _ false (Nat.le_refl _) _ _ hs (fun a ha => by
        rw [Tr.get_set]
        by_cases hai : a = o
        · rw [if_pos hai, if_pos (hai.trans e2), hai, e2]
        · rw [if_neg hai, if_neg (fun h => hai (h.trans e2.symm))]; exact hgu a a rfl ha)).1
    clear kO hcb k2 kc1 hml hself hfl
    generalize gR eI (y2' :: l2) = G2 at *
    generalize gR eI (y1' :: l1) = G1 at *
    cases hFB : FB j with
    | true =>
      have hz' : z = false := by
        cases z with
        | false => rfl
        | true => have h9 := hz rfl; rw [← ejk, hFB] at h9; cases h9
      subst hz'
      simp only [Bool.false_eq_true, if_false] at kc1a kc1b
      by_cases h0 : u i = 0
      · (conv => whnf); (repeat' (first | ((with_reducible refine ifb_mk (fun hc => ?_) (fun hc => ?_)) <;> ((try simp only [decide_eq_true_eq, decide_eq_false_iff_not, Bool.not_eq_true', Bool.not_eq_false', Int.not_lt, Int.not_le, ne_eq, Decidable.not_not, beq_iff_eq, List.cons.injEq, and_true] at hc); (first | (exfalso; omega) | exact absurd True.intro hc | conv => whnf))) | ((with_reducible refine And.intro True.intro ?_); conv => whnf) | ((with_reducible refine grd_and ?_); refine And.intro (hjk) ?_; conv => whnf) | ((with_reducible refine CallX.all ?_); refine CallW.of_ok (kc1a _ _ n1 rfl) ?_; conv => whnf) | ((with_reducible refine CallX.all ?_); refine CallW.of_ok (kc1b _ _ n1 rfl) ?_; conv => whnf) | ((with_reducible refine grd_ex ?_); refine ex_ok (kc1b _ _ n1 rfl) ?_; conv => whnf) | ((with_reducible refine grd_and ?_); refine And.intro (ix1) ?_; conv => whnf) | ((with_reducible refine grd_and ?_); refine And.intro (ix2) ?_; conv => whnf) | (refine som_mk (hgi _ (by show 0 + Int.toNat ((IntKind.i64.wrap c).tmod k) * 1 = i; rw [ei]; omega)) ?_; conv => whnf) | ((with_reducible refine CallX.all ?_); refine CallW.of_ok (kWk _) ?_; conv => whnf) | ((with_reducible refine grd_ex ?_); refine ex_ok (kWk _) ?_; conv => whnf) | ((with_reducible refine And.intro ?hh ?_); (case hh => exact condA); conv => whnf) | fail))
        all_goals first | (refine ⟨[], ?_, rfl, rfl, trivial, trivs⟩; simp only [renV, renL]; (first | done | rfl | (simp; done) | (simp; omega) | grind)) | (exfalso; omega) | (exfalso; simp [hFB] at hc; done) | (exfalso; simp at hc; done)
      · (conv => whnf); (repeat' (first | ((with_reducible refine ifb_mk (fun hc => ?_) (fun hc => ?_)) <;> ((try simp only [decide_eq_true_eq, decide_eq_false_iff_not, Bool.not_eq_true', Bool.not_eq_false', Int.not_lt, Int.not_le, ne_eq, Decidable.not_not, beq_iff_eq, List.cons.injEq, and_true] at hc); (first | (exfalso; omega) | exact absurd True.intro hc | conv => whnf))) | ((with_reducible refine And.intro True.intro ?_); conv => whnf) | ((with_reducible refine grd_and ?_); refine And.intro (hjk) ?_; conv => whnf) | ((with_reducible refine CallX.all ?_); refine CallW.of_ok (kc1a _ _ n1 rfl) ?_; conv => whnf) | ((with_reducible refine CallX.all ?_); refine CallW.of_ok (kc1b _ _ n1 rfl) ?_; conv => whnf) | ((with_reducible refine grd_ex ?_); refine ex_ok (kc1b _ _ n1 rfl) ?_; conv => whnf) | ((with_reducible refine grd_and ?_); refine And.intro (ix1) ?_; conv => whnf) | ((with_reducible refine grd_and ?_); refine And.intro (ix2) ?_; conv => whnf) | (refine som_mk (hgi _ (by show 0 + Int.toNat ((IntKind.i64.wrap c).tmod k) * 1 = i; rw [ei]; omega)) ?_; conv => whnf) | ((with_reducible refine grd_putN ?_); refine som_mk (a := ?_) ?hh ?_; (case hh => exact hpi _ _ (by show 0 + Int.toNat ((IntKind.i64.wrap c).tmod k) * 1 = i; rw [ei]; omega)); conv => whnf) | ((with_reducible refine CallX.all ?_); refine CallW.of_ok (kc2 h0 _ _ _ n2 (by show 0 + Int.toNat ((IntKind.i64.wrap c).tmod k) * 1 = i; rw [ei]; omega) rfl) ?_; conv => whnf) | ((with_reducible refine CallX.all ?_); refine CallW.of_ok (kWk _) ?_; conv => whnf) | ((with_reducible refine grd_ex ?_); refine ex_ok (kWk _) ?_; conv => whnf) | ((with_reducible refine And.intro ?hh ?_); (case hh => exact condA); conv => whnf) | fail))
        all_goals first | (refine ⟨[], ?_, rfl, rfl, trivial, trivs⟩; simp only [renV, renL]; (first | done | rfl | (simp; done) | (simp; omega) | grind)) | (exfalso; omega) | (exfalso; simp [hFB] at hc; done) | (exfalso; simp at hc; done)
    | false =>
      cases z with
      | false =>
        simp only [Bool.false_eq_true, if_false] at kc1a kc1b
        by_cases h0 : u i = 0
        · (conv => whnf); (repeat' (first | ((with_reducible refine ifb_mk (fun hc => ?_) (fun hc => ?_)) <;> ((try simp only [decide_eq_true_eq, decide_eq_false_iff_not, Bool.not_eq_true', Bool.not_eq_false', Int.not_lt, Int.not_le, ne_eq, Decidable.not_not, beq_iff_eq, List.cons.injEq, and_true] at hc); (first | (exfalso; omega) | exact absurd True.intro hc | conv => whnf))) | ((with_reducible refine And.intro True.intro ?_); conv => whnf) | ((with_reducible refine grd_and ?_); refine And.intro (hjk) ?_; conv => whnf) | ((with_reducible refine CallX.all ?_); refine CallW.of_ok (kc1a _ _ n1 rfl) ?_; conv => whnf) | ((with_reducible refine CallX.all ?_); refine CallW.of_ok (kc1b _ _ n1 rfl) ?_; conv => whnf) | ((with_reducible refine grd_ex ?_); refine ex_ok (kc1b _ _ n1 rfl) ?_; conv => whnf) | ((with_reducible refine grd_and ?_); refine And.intro (ix1) ?_; conv => whnf) | ((with_reducible refine grd_and ?_); refine And.intro (ix2) ?_; conv => whnf) | (refine som_mk (hgi _ (by show 0 + Int.toNat ((IntKind.i64.wrap c).tmod k) * 1 = i; rw [ei]; omega)) ?_; conv => whnf) | ((with_reducible refine CallX.all ?_); refine CallW.of_ok (kWk _) ?_; conv => whnf) | ((with_reducible refine grd_ex ?_); refine ex_ok (kWk _) ?_; conv => whnf) | ((with_reducible refine And.intro ?hh ?_); (case hh => exact condA); conv => whnf) | fail))
          all_goals first | (refine ⟨[], ?_, rfl, rfl, trivial, trivs⟩; simp only [renV, renL]; (first | done | rfl | (simp; done) | (simp; omega) | grind)) | (exfalso; omega) | (exfalso; simp [hFB] at hc; done) | (exfalso; simp at hc; done)
        · (conv => whnf); (repeat' (first | ((with_reducible refine ifb_mk (fun hc => ?_) (fun hc => ?_)) <;> ((try simp only [decide_eq_true_eq, decide_eq_false_iff_not, Bool.not_eq_true', Bool.not_eq_false', Int.not_lt, Int.not_le, ne_eq, Decidable.not_not, beq_iff_eq, List.cons.injEq, and_true] at hc); (first | (exfalso; omega) | exact absurd True.intro hc | conv => whnf))) | ((with_reducible refine And.intro True.intro ?_); conv => whnf) | ((with_reducible refine grd_and ?_); refine And.intro (hjk) ?_; conv => whnf) | ((with_reducible refine CallX.all ?_); refine CallW.of_ok (kc1a _ _ n1 rfl) ?_; conv => whnf) | ((with_reducible refine CallX.all ?_); refine CallW.of_ok (kc1b _ _ n1 rfl) ?_; conv => whnf) | ((with_reducible refine grd_ex ?_); refine ex_ok (kc1b _ _ n1 rfl) ?_; conv => whnf) | ((with_reducible refine grd_and ?_); refine And.intro (ix1) ?_; conv => whnf) | ((with_reducible refine grd_and ?_); refine And.intro (ix2) ?_; conv => whnf) | (refine som_mk (hgi _ (by show 0 + Int.toNat ((IntKind.i64.wrap c).tmod k) * 1 = i; rw [ei]; omega)) ?_; conv => whnf) | ((with_reducible refine grd_putN ?_); refine som_mk (a := ?_) ?hh ?_; (case hh => exact hpi _ _ (by show 0 + Int.toNat ((IntKind.i64.wrap c).tmod k) * 1 = i; rw [ei]; omega)); conv => whnf) | ((with_reducible refine CallX.all ?_); refine CallW.of_ok (kc2 h0 _ _ _ n2 (by show 0 + Int.toNat ((IntKind.i64.wrap c).tmod k) * 1 = i; rw [ei]; omega) rfl) ?_; conv => whnf) | ((with_reducible refine CallX.all ?_); refine CallW.of_ok (kWk _) ?_; conv => whnf) | ((with_reducible refine grd_ex ?_); refine ex_ok (kWk _) ?_; conv => whnf) | ((with_reducible refine And.intro ?hh ?_); (case hh => exact condA); conv => whnf) | fail))
          all_goals first | (refine ⟨[], ?_, rfl, rfl, trivial, trivs⟩; simp only [renV, renL]; (first | done | rfl | (simp; done) | (simp; omega) | grind)) | (exfalso; omega) | (exfalso; simp [hFB] at hc; done) | (exfalso; simp at hc; done)
      | true =>
        simp only [if_true] at kc1a kc1b
        by_cases h0 : u i = 0
        · (conv => whnf); (repeat' (first | ((with_reducible refine ifb_mk (fun hc => ?_) (fun hc => ?_)) <;> ((try simp only [decide_eq_true_eq, decide_eq_false_iff_not, Bool.not_eq_true', Bool.not_eq_false', Int.not_lt, Int.not_le, ne_eq, Decidable.not_not, beq_iff_eq, List.cons.injEq, and_true] at hc); (first | (exfalso; omega) | exact absurd True.intro hc | conv => whnf))) | ((with_reducible refine And.intro True.intro ?_); conv => whnf) | ((with_reducible refine grd_and ?_); refine And.intro (hjk) ?_; conv => whnf) | ((with_reducible refine CallX.all ?_); refine CallW.of_ok (kc1a _ _ n1 rfl) ?_; conv => whnf) | ((with_reducible refine CallX.all ?_); refine CallW.of_ok (kc1b _ _ n1 rfl) ?_; conv => whnf) | ((with_reducible refine grd_ex ?_); refine ex_ok (kc1b _ _ n1 rfl) ?_; conv => whnf) | ((with_reducible refine grd_and ?_); refine And.intro (ix1) ?_; conv => whnf) | ((with_reducible refine grd_and ?_); refine And.intro (ix2) ?_; conv => whnf) | (refine som_mk (hgi _ (by show 0 + Int.toNat ((IntKind.i64.wrap c).tmod k) * 1 = i; rw [ei]; omega)) ?_; conv => whnf) | ((with_reducible refine CallX.all ?_); refine CallW.of_ok (kWk _) ?_; conv => whnf) | ((with_reducible refine grd_ex ?_); refine ex_ok (kWk _) ?_; conv => whnf) | ((with_reducible refine And.intro ?hh ?_); (case hh => exact condA); conv => whnf) | fail))
          all_goals first | (refine ⟨[], ?_, rfl, rfl, trivial, trivs⟩; simp only [renV, renL]; (first | done | rfl | (simp; done) | (simp; omega) | grind)) | (exfalso; omega) | (exfalso; simp [hFB] at hc; done) | (exfalso; simp at hc; done)
        · (conv => whnf); (repeat' (first | ((with_reducible refine ifb_mk (fun hc => ?_) (fun hc => ?_)) <;> ((try simp only [decide_eq_true_eq, decide_eq_false_iff_not, Bool.not_eq_true', Bool.not_eq_false', Int.not_lt, Int.not_le, ne_eq, Decidable.not_not, beq_iff_eq, List.cons.injEq, and_true] at hc); (first | (exfalso; omega) | exact absurd True.intro hc | conv => whnf))) | ((with_reducible refine And.intro True.intro ?_); conv => whnf) | ((with_reducible refine grd_and ?_); refine And.intro (hjk) ?_; conv => whnf) | ((with_reducible refine CallX.all ?_); refine CallW.of_ok (kc1a _ _ n1 rfl) ?_; conv => whnf) | ((with_reducible refine CallX.all ?_); refine CallW.of_ok (kc1b _ _ n1 rfl) ?_; conv => whnf) | ((with_reducible refine grd_ex ?_); refine ex_ok (kc1b _ _ n1 rfl) ?_; conv => whnf) | ((with_reducible refine grd_and ?_); refine And.intro (ix1) ?_; conv => whnf) | ((with_reducible refine grd_and ?_); refine And.intro (ix2) ?_; conv => whnf) | (refine som_mk (hgi _ (by show 0 + Int.toNat ((IntKind.i64.wrap c).tmod k) * 1 = i; rw [ei]; omega)) ?_; conv => whnf) | ((with_reducible refine grd_putN ?_); refine som_mk (a := ?_) ?hh ?_; (case hh => exact hpi _ _ (by show 0 + Int.toNat ((IntKind.i64.wrap c).tmod k) * 1 = i; rw [ei]; omega)); conv => whnf) | ((with_reducible refine CallX.all ?_); refine CallW.of_ok (kc2 h0 _ _ _ n2 (by show 0 + Int.toNat ((IntKind.i64.wrap c).tmod k) * 1 = i; rw [ei]; omega) rfl) ?_; conv => whnf) | ((with_reducible refine CallX.all ?_); refine CallW.of_ok (kWk _) ?_; conv => whnf) | ((with_reducible refine grd_ex ?_); refine ex_ok (kWk _) ?_; conv => whnf) | ((with_reducible refine And.intro ?hh ?_); (case hh => exact condA); conv => whnf) | fail))
          all_goals first | (refine ⟨[], ?_, rfl, rfl, trivial, trivs⟩; simp only [renV, renL]; (first | done | rfl | (simp; done) | (simp; omega) | grind)) | (exfalso; omega) | (exfalso; simp [hFB] at hc; done) | (exfalso; simp at hc; done)
end Go.Proofs.H

namespace Go.Proofs.H
open Go.As Go.ChangeShapes Go.WideShapes Go.Deep Go.ChangeAt Go.RowKit
set_option maxRecDepth 20000
set_option linter.unusedVariables false

section
variable {H : Type} {enc : TypeId × Value → H} {P : Program} {w : World}
/-- A slice of small numbers. -/
theorem slice_readC {t e : TypeId} {fuel : Nat} {v : Value} {d : DataW H} {ps : List MemPlace} {b0 : Nat} (ht : P.underlying t = some (.slice e)) (hu : P.underlying e = some (.int .i8)) (hk : P.cellsOf e = 1)
    (h : DataW.trod enc P w 0 (fun _ => true) true fuel t [v] = some (d, ps)) (hz : w.noneFrozen ps) (hok : Cell.okWide P w .any b0 t v) :
    v = .slice none 0 0 ∨ ∃ (a : Addr) (len cap : Nat) (f : Nat → Int) (c : Array Value) (et : TypeId) (lo hi : Nat), v = .slice (some ⟨a.block, a.off, none⟩) len cap ∧ len ≤ cap ∧ len ≤ 9223372036854775807 ∧ w.heap[a.block]? = some (.cells c et (lo, hi)) ∧
      ∀ i, i < len → c[a.off + i]? = some (.int .i8 (f i)) ∧ (-128 ≤ f i ∧ f i ≤ 127) ∧ ¬(lo ≤ a.off + i ∧ a.off + i < hi) := by
  rcases open_slice ht h with ⟨h1, _⟩ | ⟨a, len, cap, m, q, D, Pl, hcs, _, hl, hm, hmm, hx, hel⟩
  · left; cases h1; rfl
  right
  cases hcs
  cases hx
  have hok' : len ≤ cap ∧ (cap : Int) ≤ IntKind.i64.max ∧ w.has P .any b0 a e cap := by
    simp only [Cell.okWide, ht, Cell.ok] at hok
    exact hok
  obtain ⟨_, _, _, hspot, row, cells, hshape, _⟩ := hok'
  obtain ⟨blk, off, spot⟩ := a
  dsimp only at hspot
  subst hspot
  have hm' : m = cap := hmm
  subst hm'
  unfold World.shape? at hshape
  dsimp only at hshape
  split at hshape
  · rename_i c et fz hb
    obtain ⟨lo, hi⟩ := fz
    have key : ∀ i, ∃ x : Int, i < len → c[off + i]? = some (.int .i8 x) ∧ (-128 ≤ x ∧ x ≤ 127) ∧ ¬(lo ≤ off + i ∧ off + i < hi) := by
      intro i
      by_cases hi' : i < len
      · obtain ⟨cs', h1, h2⟩ := hel i (by omega)
        obtain ⟨_, hlen, hg⟩ := World.cells?_some h1
        rw [hk] at hlen hg
        have h3 := hg 0 (by omega)
        rw [Go.Deep.add_add, Addr.add_plain, show i * 1 + 0 = i from by omega] at h3
        obtain ⟨x, hcs, hx, hwf⟩ := DataW.trod_int hu h2
        subst hcs
        have h3' : w.cell? ⟨blk, off + i, none⟩ = some (.int .i8 x) := h3
        refine ⟨x, fun _ => ⟨?_, ?_, ?_⟩⟩
        · unfold World.cell? at h3'
          dsimp only at h3'
          rw [hb] at h3'
          exact h3'
        · simp [Lit.wf, IntKind.min, IntKind.max, IntKind.signed, IntKind.bits] at hwf; omega
        · have hmem : MemPlace.cell blk (off + i) ∈ MemPlace.row ⟨blk, off, none⟩ (m * P.cellsOf e) ++ (List.range m).flatMap Pl := by
            refine List.mem_append_left _ (MemPlace.mem_row.2 ⟨i, ?_, rfl⟩)
            rw [hk]
            omega
          have hfz := hz blk (off + i) hmem
          unfold World.frozen? at hfz
          dsimp only at hfz
          rw [hb] at hfz
          dsimp only at hfz
          intro hc
          rw [Bool.and_eq_false_iff] at hfz
          simp only [decide_eq_false_iff_not] at hfz
          omega
      · exact ⟨0, fun h => absurd h hi'⟩
    refine ⟨⟨blk, off, none⟩, len, m, fun i => Classical.choose (key i), c, et, lo, hi, rfl, hl, ?_, hb, fun i hi' => Classical.choose_spec (key i) hi'⟩
    have : m ≤ maxLen := hm
    unfold maxLen at this
    omega
  · cases hshape
end
section
variable {H : Type} {enc : TypeId × Value → H} {W : World}
theorem cG_fr {W : World} {n : Nat} {f : Nat → Int} {blk off cap : Nat} {c : Array Value} {et : TypeId} {lo hi : Nat} (hle : n ≤ cap) (hb : W.heap[blk]? = some (.cells c et (lo, hi)))
    (hc : ∀ i, i < n → c[off + i]? = some (.int .i8 (f i)) ∧ (-128 ≤ f i ∧ f i ≤ 127) ∧ ¬(lo ≤ off + i ∧ off + i < hi)) : FR (zW W) (.rsl false 1 n (cG f)) (.slice (some ⟨blk, off, none⟩) n cap) := by
  refine .rsl (zW_at hb) hle (fun h => by cases h) (fun i hi' => rfl) (fun i hi' j v hv => ?_) (fun i hi' j v x hv hx => ?_)
  · obtain ⟨h1, _, h3⟩ := hc i hi'
    match j with
    | 0 =>
      have hv' : V.int .i8 (f i) = v := by simpa [cG] using hv
      subst hv'
      rw [show off + i * 1 + 0 = off + i from by omega]
      exact ⟨rfl, ⟨_, h1⟩, h3⟩
    | j + 1 => simp [cG] at hv
  · obtain ⟨h1, _, h3⟩ := hc i hi'
    match j with
    | 0 =>
      have hv' : V.int .i8 (f i) = v := by simpa [cG] using hv
      subst hv'
      have hx' : c[off + i]? = some x := by rw [show off + i = off + i * 1 + 0 from by omega]; exact hx
      rw [h1] at hx'
      cases hx'
      exact .int _ _
    | j + 1 => simp [cG] at hv
theorem c_read {fuel : Nat} {v : Value} {d : DataW H} {ps : List MemPlace} {b0 : Nat} (h : DataW.trod enc Try.prog W 0 (fun _ => true) true fuel 53 [v] = some (d, ps)) (hz : W.noneFrozen ps) (hok : Cell.okWide Try.prog W .any b0 53 v) :
    ∃ (n : Nat) (a : Nat → Int), n ≤ 9223372036854775807 ∧ (∀ i, i < n → -128 ≤ a i ∧ a i ≤ 127) ∧ FR (zW W) (.rsl false 1 n (cG a)) v := by
  rcases slice_readC Try.underlying53 Try.underlying54 (by kernel_rfl) h hz hok with rfl | ⟨ad, len, cap, f, c, et, flo, fhi, rfl, hlc, hlm, hb, hcs⟩
  · exact ⟨0, fun _ => 0, by simp, fun i hi => absurd hi (Nat.not_lt_zero i), .rsl0⟩
  · exact ⟨len, f, hlm, fun i hi => (hcs i hi).2.1, cG_fr hlc hb hcs⟩
theorem int8s_read {v : Value} {d : DataW H} {ps : List MemPlace} {b0 : Nat} (hok : Value.okWide Try.prog W .any b0 53 v) (hd : DataW.Trod enc Try.prog W 0 (fun _ => true) true 53 v d ps) (hz : W.noneFrozen ps) :
    ∃ (n : Nat) (a : Nat → Int), n ≤ 9223372036854775807 ∧ (∀ i, i < n → -128 ≤ a i ∧ a i ≤ 127) ∧ VR (mW W) (.rsl false 1 n (cG a)) v := by
  obtain ⟨fuel, hf⟩ := hd
  have hc : v.cells.toList = [v] ∧ Cell.okWide Try.prog W .any b0 53 v := by
    simp only [Value.okWide, Try.underlying53] at hok
    cases v <;> first | exact ⟨rfl, hok⟩ | (simp [Cell.okWide, Cell.ok, Try.underlying53] at hok)
  have hf' : DataW.trod enc Try.prog W 0 (fun _ => true) true fuel 53 [v] = some (d, ps) := by rw [← hc.1]; exact hf
  obtain ⟨n, a, h1, h2, h3⟩ := c_read hf' hz hc.2
  exact ⟨n, a, h1, h2, h3.vr⟩
end
end Go.Proofs.H

