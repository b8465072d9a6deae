/- What the functions answer that the laws call, one after another (Kb). -/
import Derived.Test.YtgopneibaajgbaaAs6
import Derived.Test.YtgopneibaajgbaaNx
import Derived.Test.YtgopneibaajgbaaU
import Derived.Test.YtgopneibaajgbaaWk

set_option linter.unusedVariables false
namespace Go.Proofs.H
open Go.As
set_option maxRecDepth 20000
set_option linter.unusedVariables false
set_option linter.unusedSimpArgs false

/-! ### What comes back: no set of places is forbidden -/

/-- How many neighbours lie in a set. -/
def nF (W H : Nat) (F : Nat → Bool) (i : Nat) : Int := sm 4 fun j => if nbP W H i j = true then bI (F (nbI W i j)) else 0
structure Fb (W H n : Nat) (x : Nat → Int) (F : Nat → Bool) : Prop where
  one : ∃ i, i < n ∧ F i = true
  few : ∀ i, i < n → F i = true → x i < nF W H F i
theorem nF_le {W H : Nat} {F G : Nat → Bool} {i n : Nat} (hi : ∀ j, j < 4 → nbP W H i j = true → nbI W i j < n) (h : ∀ k, k < n → F k = true → G k = true) : nF W H F i ≤ nF W H G i := by
  refine sm_le fun j hj => ?_
  split
  · rename_i hp
    have := h _ (hi j hj hp)
    cases hF : F (nbI W i j) with
    | true => rw [this hF]; exact Int.le_refl _
    | false => cases G (nbI W i j) <;> decide
  · exact Int.le_refl _
theorem nF_ad {W H : Nat} {F : Nat → Bool} {i k : Nat} (h : F k = true) : adI W H k i ≤ nF W H F i := by
  refine sm_le fun j hj => ?_
  cases hp : nbP W H i j with
  | false => simp [bI]
  | true =>
    rw [if_pos rfl]
    cases hb : Nat.beq k (nbI W i j) with
    | true => rw [← Nat.eq_of_beq_eq_true hb, h]; decide
    | false => cases F (nbI W i j) <;> decide
theorem nF_del {W H : Nat} {F : Nat → Bool} {i k : Nat} (h : F i = true) : nF W H F k = nF W H (fun j => F j && !(Nat.beq i j)) k + adI W H i k := by
  unfold nF adI
  rw [← sm_add]
  refine sm_congr fun j hj => ?_
  cases hp : nbP W H k j with
  | false => simp [bI]
  | true =>
    rw [if_pos rfl, if_pos rfl]
    show bI (F (nbI W k j)) = bI (F (nbI W k j) && !(Nat.beq i (nbI W k j))) + bI (true && Nat.beq i (nbI W k j))
    cases hb : Nat.beq i (nbI W k j) with
    | true => rw [← Nat.eq_of_beq_eq_true hb, h]; rfl
    | false => cases F (nbI W k j) <;> rfl
theorem lf_nF (W H : Nat) (L : List Nat) (i : Nat) : lf W H L i = nF W H (fun k => !decide (k ∈ L)) i := by
  rw [lf_cP]
  unfold nF
  rw [sm4]
  simp only [cP]
  have e : ∀ k, (1 - gn L k) = bI (!decide (k ∈ L)) := fun k => by
    unfold gn
    by_cases h : k ∈ L
    · rw [if_pos h, decide_eq_true h]; rfl
    · rw [if_neg h, decide_eq_false h]; rfl
  simp only [e]
  omega
section
variable {W H n : Nat} {x : Nat → Int}
theorem Bn.full {L : List Nat} (b : Bn n L) (h : L.length = n) : ∀ i, i < n → gn L i = 1 := fun i hi => by
  have h1 : sm n (fun k => 1 - gn L k) = 0 := by rw [sm_sub, b.len, sm_c]; omega
  have h2 := sm_ge (f := fun k => 1 - gn L k) (fun k _ => by have := gn_01 L k; (try dsimp only); omega) hi
  have h3 := gn_01 L i
  omega
theorem Bn.some {L : List Nat} (b : Bn n L) (h : L.length ≠ n) : ∃ i, i < n ∧ gn L i = 0 := by
  refine Classical.byContradiction fun hc => h ?_
  have h1 : sm n (gn L) = sm n fun _ => 1 := sm_congr fun k hk => by
    have h2 := gn_01 L k
    have h3 : gn L k ≠ 0 := fun h0 => hc ⟨k, hk, h0⟩
    omega
  rw [b.len, sm_c] at h1
  omega
theorem bI2_fix : ∀ m L, Bn n L → L.length + m = n → fst4 (okI W H x (bI2 W H n x m L)) n = n
  | 0, L, b, h => fst4_n fun j hj => by
    unfold okI
    rw [if_neg (fun hc => by have := b.full (by omega) j hj; have := hc.1; rw [show bI2 W H n x 0 L = L from rfl] at this; omega)]
    decide
  | m + 1, L, b, h => by
    show fst4 (okI W H x (bI2 W H n x m (bS W H n x L))) n = n
    by_cases hlt : fst4 (okI W H x L) n < n
    · have e : bS W H n x L = fst4 (okI W H x L) n :: L := if_pos hlt
      have h3 := (fst4_spec (okI W H x L) n).2.2 hlt
      have hg : gn L (fst4 (okI W H x L) n) = 0 := by
        generalize fst4 (okI W H x L) n = i at *
        unfold okI at h3
        split at h3
        · rename_i hc; exact hc.1
        · omega
      rw [e]
      exact bI2_fix m _ (b.cons hlt hg) (by rw [List.length_cons]; omega)
    · have e : bS W H n x L = L := if_neg hlt
      have h1 := (fst4_spec (okI W H x L) n).1
      rw [e, bI2_end (by omega) m]
      omega
theorem bI2_out {F : Nat → Bool} (hW : 1 ≤ W ∧ W ≤ 6) (hH : 1 ≤ H ∧ H ≤ 6) (hn : n = W * H) (f : Fb W H n x F) : ∀ m L, (∀ i, i ∈ L → F i = false) → ∀ i, i ∈ bI2 W H n x m L → F i = false
  | 0, L, h => h
  | m + 1, L, h => bI2_out hW hH hn f m (bS W H n x L) (by
    intro i hi
    unfold bS at hi
    split at hi
    · rename_i hlt
      rcases List.mem_cons.1 hi with e | e
      · have h3 := (fst4_spec (okI W H x L) n).2.2 hlt
        rw [← e] at h3 hlt
        refine Classical.byContradiction fun hF => ?_
        have hFt : F i = true := by cases hb : F i with | true => rfl | false => exact absurd hb hF
        have h4 := f.few i hlt hFt
        have h5 : lf W H L i ≤ x i := by
          unfold okI at h3
          split at h3
          · rename_i hc; exact hc.2
          · omega
        rw [lf_nF] at h5
        have h6 := nF_le (F := F) (G := fun k => !decide (k ∈ L)) (i := i) (n := n) (fun j hj hp => by rw [hn]; exact (grid_at hW hH (by omega)).2.2.2.2.2.2 j hj hp) (fun k _ hk => by
          rw [decide_eq_false (fun hm => by rw [h k hm] at hk; cases hk)]; rfl)
        omega
      · exact h i e
    · exact h i hi)
/-- All burn, or some set is forbidden. -/
theorem brn_iff (hW : 1 ≤ W ∧ W ≤ 6) (hH : 1 ≤ H ∧ H ≤ 6) (hn : n = W * H) : (brn W H n x).length = n ↔ ¬ ∃ F, Fb W H n x F := by
  have b := brn_le W H n x
  constructor
  · rintro h ⟨F, f⟩
    obtain ⟨i, hi, hF⟩ := f.one
    have h1 := b.full h i hi
    have h2 : i ∈ brn W H n x := by
      refine Classical.byContradiction fun hc => ?_
      unfold gn at h1
      rw [if_neg hc] at h1
      omega
    have h3 := bI2_out hW hH hn f n [] (fun i hi => by cases hi) i h2
    rw [hF] at h3
    cases h3
  · intro h
    refine Classical.byContradiction fun hc => h ⟨fun k => !decide (k ∈ brn W H n x), ?_, fun i hi hF => ?_⟩
    · obtain ⟨i, hi, hg⟩ := b.some hc
      refine ⟨i, hi, ?_⟩
      unfold gn at hg
      rw [decide_eq_false (fun hm => by rw [if_pos hm] at hg; omega)]; rfl
    · have h1 := bI2_fix (W := W) (H := H) (x := x) n [] (Bn.nil n) (by simp)
      have h2 := (fst4_spec (okI W H x (brn W H n x)) n).2.1 i (by show i < fst4 (okI W H x (bI2 W H n x n [])) n; omega)
      rw [← lf_nF]
      unfold okI at h2
      split at h2
      · omega
      · rename_i hc2
        have hg : gn (brn W H n x) i = 0 := by
          unfold gn
          rw [if_neg (fun hm => by rw [decide_eq_true hm] at hF; cases hF)]
        exact Int.not_le.1 fun h5 => hc2 ⟨hg, h5⟩
/-- A possible blow, or some at once. -/
theorem fb_hit (hW : 1 ≤ W ∧ W ≤ 6) (hH : 1 ≤ H ∧ H ≤ 6) (hn : n = W * H) {i : Nat} (hi : i < n) {N : Int} (hN : 1 ≤ N) (h4 : 4 * N ≤ x i) {F : Nat → Bool} (f : Fb W H n (hitA (adI W H) x i N) F) : ∃ G, Fb W H n x G := by
  have g : Gr n (adI W H) (wgt W) := by rw [hn]; exact gr_ok hW hH
  cases hF : F i with
  | false =>
    refine ⟨F, f.one, fun k hk hk2 => ?_⟩
    have h1 := f.few k hk hk2
    have hne : k ≠ i := fun e => by rw [e, hF] at hk2; cases hk2
    have h2 : 0 ≤ adI W H k i * N := Int.mul_nonneg (g.nn k i) (by omega)
    unfold hitA at h1
    rw [if_neg hne] at h1
    omega
  | true =>
    refine ⟨fun j => F j && !(Nat.beq i j), ?_, fun k hk hk2 => ?_⟩
    · refine Classical.byContradiction fun hc => ?_
      have h1 := f.few i hi hF
      have h2 : nF W H F i ≤ nF W H (fun j => Nat.beq i j) i := nF_le (n := n) (fun j hj hp => by rw [hn]; exact (grid_at hW hH (by omega)).2.2.2.2.2.2 j hj hp) fun k hk hk2 => by
        cases hb : Nat.beq i k with
        | true => rfl
        | false => exact absurd ⟨k, hk, by simp [hk2, hb]⟩ hc
      have h3 : nF W H (fun j => Nat.beq i j) i = adI W H i i := by
        unfold nF adI
        exact sm_congr fun j hj => by cases nbP W H i j <;> simp [bI]
      have h5 := (grid_at (i := i) hW hH (by omega)).2.1
      unfold hitA at h1
      rw [if_pos rfl] at h1
      have h6 : 0 ≤ adI W H i i * N := Int.mul_nonneg (g.nn i i) (by omega)
      omega
    · simp only [Bool.and_eq_true, Bool.not_eq_true'] at hk2
      have hne : k ≠ i := fun e => by rw [e, Nat.beq_refl] at hk2; exact absurd hk2.2 (by decide)
      have h1 := f.few k hk hk2.1
      rw [nF_del hF] at h1
      unfold hitA at h1
      rw [if_neg hne, g.sym k i hk hi] at h1
      have h2 : adI W H i k * 1 ≤ adI W H i k * N := Int.mul_le_mul_of_nonneg_left hN (g.nn i k)
      omega
theorem fb_itr (hW : 1 ≤ W ∧ W ≤ 6) (hH : 1 ≤ H ∧ H ≤ 6) (hn : n = W * H) : ∀ (m : Nat) (s : F2) (F : Nat → Bool), Fb W H n (itr n (adI W H) m s).1 F → ∃ G, Fb W H n s.1 G
  | 0, s, F, f => ⟨F, f⟩
  | m + 1, s, F, f => by
    obtain ⟨G, f2⟩ := fb_itr hW hH hn m (stp n (adI W H) s) F f
    unfold stp at f2
    split at f2
    · rename_i h
      have h3 := (fst4_spec s.1 n).2.2 h
      exact fb_hit hW hH hn h (by omega) (by omega) f2
    · exact ⟨G, f2⟩
theorem back_add (p : Pv W H n x) {y e : Nat → Int} (hb : (brn W H n (xF W H x)).length = n) (q : Pv W H n e) (hy : ∀ k, k < n → y k = xF W H (fun i => x i + e i) k) : (brn W H n y).length = n := by
  rw [brn_cong hy, brn_iff p.hw p.hh p.hn]
  rw [brn_iff p.hw p.hh p.hn] at hb
  rintro ⟨F, f⟩
  have f2 : Fb W H n (xF W H (fun i => xF W H x i + e i)) F := ⟨f.one, fun i hi hF => by rw [flat_add p q.d0 i hi]; exact f.few i hi hF⟩
  unfold xF at f2
  rw [← p.hn] at f2
  obtain ⟨G, f3⟩ := fb_itr p.hw p.hh p.hn _ _ F f2
  refine hb ⟨G, f3.one, fun i hi hG => ?_⟩
  have h1 := f3.few i hi hG
  have h2 := q.d0 i hi
  dsimp only at h1
  unfold xF
  rw [← p.hn]
  omega
/-- A plate that is as high as a flat one may be. -/
theorem back_three (hW : 1 ≤ W ∧ W ≤ 6) (hH : 1 ≤ H ∧ H ≤ 6) (hn : n = W * H) (hx : ∀ k, k < n → x k = 3) : (brn W H n x).length = n := by
  rw [brn_iff hW hH hn]
  rintro ⟨F, f⟩
  have key : ∀ i, i < n → F i = true → ∃ k, k < i ∧ k < n ∧ F k = true := fun i hi hF => by
    have h1 := f.few i hi hF
    rw [hx i hi] at h1
    unfold nF at h1
    rw [sm4] at h1
    have hb : ∀ b, 0 ≤ bI b ∧ bI b ≤ 1 := fun b => by cases b <;> decide
    have b0 := hb (F (nbI W i 0)); have b1 := hb (F (nbI W i 1)); have b2 := hb (F (nbI W i 2)); have b3 := hb (F (nbI W i 3))
    by_cases h0 : nbP W H i 0 = true
    · rw [if_pos h0] at h1
      have h2 : F (nbI W i 0) = true := by
        cases hq : F (nbI W i 0) with
        | true => rfl
        | false =>
          rw [hq] at h1
          have : bI false = 0 := rfl
          exfalso
          (repeat' split at h1) <;> omega
      have h3 : 0 < i / W := by rw [nbP, Nat.blt_eq] at h0; exact h0
      have h4 : W * 1 ≤ W * (i / W) := Nat.mul_le_mul_left W h3
      have h5 := Nat.mul_div_le i W
      have h6 : nbI W i 0 = i - W := rfl
      exact ⟨nbI W i 0, by omega, by omega, h2⟩
    · exfalso
      rw [if_neg h0] at h1
      (repeat' split at h1) <;> omega
  obtain ⟨i, hi, hF⟩ := f.one
  have : ∀ m i, i ≤ m → i < n → F i = true → False := fun m => by
    induction m with
    | zero => intro i him hi hF; obtain ⟨k, hk, _, _⟩ := key i hi hF; omega
    | succ m ih => intro i him hi hF; obtain ⟨k, hk, hk2, hk3⟩ := key i hi hF; exact ih k (by omega) hk2 hk3
  exact this i i (Nat.le_refl _) hi hF
/-- Two neighbours that do not stand up do not come back. -/
theorem back_zero (hW : 1 ≤ W ∧ W ≤ 6) (hH : 1 ≤ H ∧ H ≤ 6) (hn : n = W * H) (hb : (brn W H n x).length = n) {i k : Nat} (hi : i < n) (hk : k ∈ bsL W H i) : ¬ (x i = 0 ∧ x k = 0) := by
  rw [brn_iff hW hH hn] at hb
  rintro ⟨h1, h2⟩
  have g : Gr n (adI W H) (wgt W) := by rw [hn]; exact gr_ok hW hH
  have hkn : k < n := by rw [hn]; exact bsL_lt hW hH (by omega) hk
  obtain ⟨j, hj, hp, he⟩ : ∃ j, j < 4 ∧ nbP W H i j = true ∧ nbI W i j = k := by
    unfold bsL at hk
    simp only [List.mem_append] at hk
    rcases hk with ((hk | hk) | hk) | hk
    · split at hk
      · rename_i hp; exact ⟨0, by omega, hp, (List.mem_singleton.1 hk).symm⟩
      · cases hk
    · split at hk
      · rename_i hp; exact ⟨1, by omega, hp, (List.mem_singleton.1 hk).symm⟩
      · cases hk
    · split at hk
      · rename_i hp; exact ⟨2, by omega, hp, (List.mem_singleton.1 hk).symm⟩
      · cases hk
    · split at hk
      · rename_i hp; exact ⟨3, by omega, hp, (List.mem_singleton.1 hk).symm⟩
      · cases hk
  have had : 1 ≤ adI W H k i := by
    have h3 := sm_ge (n := 4) (f := fun j => bI (nbP W H i j && Nat.beq k (nbI W i j))) (fun j _ => bI_nn _) hj
    rw [hp, he, Nat.beq_refl] at h3
    exact h3
  refine hb ⟨fun q => Nat.beq i q || Nat.beq k q, ⟨i, hi, by rw [Nat.beq_refl]; rfl⟩, fun q hq hF => ?_⟩
  have c1 := nF_ad (W := W) (H := H) (F := fun q => Nat.beq i q || Nat.beq k q) (i := i) (k := k) (by rw [Nat.beq_refl, Bool.or_true])
  have c2 := nF_ad (W := W) (H := H) (F := fun q => Nat.beq i q || Nat.beq k q) (i := k) (k := i) (by rw [Nat.beq_refl]; rfl)
  rw [g.sym i k hi hkn] at c2
  rcases Bool.or_eq_true _ _ ▸ hF with e | e
  · rw [← Nat.eq_of_beq_eq_true e, h1]; omega
  · rw [← Nat.eq_of_beq_eq_true e, h2]; omega
end
end Go.Proofs.H

namespace Go.Proofs.H
open Go.As
set_option maxRecDepth 20000
set_option linter.unusedVariables false
set_option linter.unusedSimpArgs false

/-! ### A plate of which all dents are 3 -/

set_option maxHeartbeats 8000000 in
theorem sized3_new (h : As.H) (W H : Nat) (n : Nat) (d : Nat → Int) (hn : n ≤ 64) (sv : V) (hsv : SlC h [.int .u8 3] 1 sv) (l : List Int) (hl : l = szL (fun _ => 3) n) :
    CallOk Try.prog 47 [plV W H false n d, sv, .int .i64 3] h (.agg [.int .i64 W, .int .i64 H, grV (h.n + 0) l.length]) (addBs h (gNew 1 eI l)) := by
  obtain ⟨vo, svC, hsv2, hca, hvw⟩ := hsv.view 0
  have hs := szL_len (fun _ => 3)
  have hs0 : szL (fun _ => 3) 0 = [] := rfl
  have hss : ∀ i, szL (fun _ => 3) (i + 1) = 3 :: szL (fun _ => 3) i := fun i => rfl
  generalize szL (fun _ => 3) = SL at *
  refine CallOk.runN Try.func47 rfl rfl (argsC := [plV W H false n d, svC, .int .i64 3]) (fun N => .agg [.int .i64 W, .int .i64 H, grV (N + 0) l.length]) (fun _ => gNew 1 eI l) (Nat.le_of_ble_eq_true rfl) [vo] (.cons (.lt0 rfl) (.cons (hca _ rfl) (.cons (.bare rfl) .nil))) (viewMc1 (fun v hv => by rw [List.mem_singleton.1 hv]; rfl) hvw)
    (ShV.agg (.cons (.bare rfl) (.cons (.bare rfl) (.cons (grSh _ _ _ 1 0 _ eI l (by simp)) .nil)))) rfl (fun i b hi => ⟨b, hi, grBs eI_bare hi⟩) (WpR.of_vc ?_)
  cases hsv2 with
  | nil h0 => exact absurd h0 (by decide)
  | @sl cap ex =>
  (conv => whnf); (repeat' (first | ((with_reducible refine ifb_mk (fun hc => ?_) (fun hc => ?_)) <;> ((try simp only [decide_eq_true_eq, decide_eq_false_iff_not, Bool.not_eq_true', Bool.not_eq_false', Int.not_lt, Int.not_le, ne_eq, Decidable.not_not, beq_iff_eq, List.cons.injEq, and_true] at hc); (first | (exfalso; omega) | exact absurd True.intro hc | conv => whnf))) | ((with_reducible refine And.intro True.intro ?_); conv => whnf) | ((with_reducible refine And.intro ?hh ?_); (case hh => exact condA); conv => whnf) | fail))
  have hMap : ∀ i, ltB 5 (.cells (ofL [.int .i64 W, .int .i64 H, grV 4 i] 0) true none) := fun i => ltB_ofL (by intro v hv; (repeat (rcases List.mem_cons.1 hv with rfl | hv; (first | rfl | exact grV_lt rfl i))); cases hv)
  have hMapA : ∀ i, ltB 1000 (.cells (ofL [.int .i64 W, .int .i64 H, grV 4 i] 0) true none) := fun i => ltB_ofL (by intro v hv; (repeat (rcases List.mem_cons.1 hv with rfl | hv; (first | rfl | exact grV_lt rfl i))); cases hv)
  have hMap2 : ∀ l : List Int, ltB 5 (grB 1 (gR eI l) l.length) := fun l => grB_lt (gR_bare eI_bare) _
  refine WpR.loopA (ι := Nat × List Int) [4] [0, 1, 2, 3, 6, 7] [3, 4] [] 5 (fun p => [(8, .int .i64 p.1)]) (fun p => [(3, .cells (ofL [.int .i64 W, .int .i64 H, grV 4 p.2.length] 0) true none), (4, grB 1 (gR eI p.2) p.2.length)]) (fun p => n - p.1) (fun p => p.1 ≤ n ∧ p.2 = SL p.1) ?_ ((0, [])) (⟨Nat.zero_le _, hs0.symm⟩) [] Back.auto
  rintro ⟨i, q⟩ ⟨j1, j2⟩
  dsimp only at j1 j2
  refine WpR.of_vc ?_
  have hql := hs i
  rw [← j2] at hql
  by_cases hi : i < n
  · have e := hss i
    rw [← j2] at e
    have ei : (i : Int).tmod 1 = ((0 : Nat) : Int) := by rw [Int.tmod_one]; rfl
    have y1 : InR ((i : Int).tmod 1) := by rw [ei]; unfold InR; omega
    have hg3 : ∀ o, o = 0 → (ofL [V.int .u8 3] 0).get o = some (.int .u8 3) := fun o ho => by subst ho; rfl
    have y4 : 0 ≤ (i : Int).tmod 1 := by rw [ei]; exact Int.le_refl _
    have y5 : (i : Int).tmod 1 < 1 := by rw [ei]; decide
    have y6 : InR ((IntKind.i64.wrap 3).tmod (3 + 1)) := by unfold InR; exact ⟨by decide, by decide⟩
    (conv => whnf); (repeat' (first | ((with_reducible refine ifb_mk (fun hc => ?_) (fun hc => ?_)) <;> ((try simp only [decide_eq_true_eq, decide_eq_false_iff_not, Bool.not_eq_true', Bool.not_eq_false', Int.not_lt, Int.not_le, ne_eq, Decidable.not_not, beq_iff_eq, List.cons.injEq, and_true] at hc); (first | (exfalso; omega) | exact absurd True.intro hc | conv => whnf))) | ((with_reducible refine And.intro True.intro ?_); conv => whnf) | ((with_reducible refine grd_and ?_); refine And.intro (hi) ?_; conv => whnf) | ((with_reducible refine grd_and ?_); refine And.intro (y1) ?_; conv => whnf) | ((with_reducible refine grd_and ?_); refine And.intro (y6) ?_; conv => whnf) | ((with_reducible refine grd_and ?_); refine And.intro (y4) ?_; conv => whnf) | ((with_reducible refine grd_and ?_); refine And.intro (y5) ?_; conv => whnf) | (refine som_mk (hg3 _ (by show 0 + Int.toNat ((i : Int).tmod 1) * 1 = 0; rw [ei]; rfl)) ?_; conv => whnf) | (((with_reducible refine idxP_mk (k := 0) ?hh ?_); (case hh => exact ei)); conv => whnf) | (refine AppX.gr (n := 1) (L := gR eI q) (len := q.length) rfl rfl (gI_len q) (gI_one q) Nat.zero_lt_one (by omega) ?_; conv => whnf) | ((with_reducible refine And.intro ?hh ?_); (case hh => exact condA); conv => whnf) | fail))
    all_goals first | (exfalso; omega) | exact ⟨(i + 1, 3 :: q), [(4, 6)], by dsimp only; omega, ⟨by dsimp only; omega, e.symm⟩, Back.auto⟩
  · have ei : i = n := by omega
    rw [ei] at j2
    have el : l = q := by rw [hl, j2]
    subst el
    cases l with
    | nil =>
      (conv => whnf); (repeat' (first | ((with_reducible refine ifb_mk (fun hc => ?_) (fun hc => ?_)) <;> ((try simp only [decide_eq_true_eq, decide_eq_false_iff_not, Bool.not_eq_true', Bool.not_eq_false', Int.not_lt, Int.not_le, ne_eq, Decidable.not_not, beq_iff_eq, List.cons.injEq, and_true] at hc); (first | (exfalso; omega) | exact absurd True.intro hc | conv => whnf))) | ((with_reducible refine And.intro True.intro ?_); conv => whnf) | ((with_reducible refine And.intro ?hh ?_); (case hh => exact condA); conv => whnf) | fail))
      exact ⟨[], rfl, rfl, rfl, trivial, trivs⟩
    | cons y l =>
      (conv => whnf); (repeat' (first | ((with_reducible refine ifb_mk (fun hc => ?_) (fun hc => ?_)) <;> ((try simp only [decide_eq_true_eq, decide_eq_false_iff_not, Bool.not_eq_true', Bool.not_eq_false', Int.not_lt, Int.not_le, ne_eq, Decidable.not_not, beq_iff_eq, List.cons.injEq, and_true] at hc); (first | (exfalso; omega) | exact absurd True.intro hc | conv => whnf))) | ((with_reducible refine And.intro True.intro ?_); conv => whnf) | ((with_reducible refine And.intro ?hh ?_); (case hh => exact condA); conv => whnf) | fail))
      exact ⟨[4], rfl, rfl, rfl, ⟨⟨_, rfl, rfl, SubQ.ofL rfl (gR_bare (l := y :: l) eI_bare) (.inr rfl)⟩, ltB_ofLb (gR_bare (l := y :: l) eI_bare), rfl, trivial⟩, trivs⟩
theorem sized3_ok {W H n : Nat} {d : Nat → Int} (p : Pv W H n d) (h : As.H) (sv : V) (hsv : SlC h [.int .u8 3] 1 sv) :
    CallOk Try.prog 47 [plV W H false n d, sv, .int .i64 3] h (plV W H false n (fun _ => 3)) h := by
  have hc := sized3_new h W H n d (by have := p.le; omega) sv hsv _ rfl
  have := CallOk.freeze hc (FzL.agg (.cons (.same rfl) (.cons (.same rfl) (.cons (grFz (i := 0) eI_len eI_bare (fun b hb => hb) (iszL _ n)) .nil)))) gNew_wr
  rwa [szL_len] at this
end Go.Proofs.H

namespace Go.Proofs.H
open Go.As
set_option maxRecDepth 20000
set_option linter.unusedVariables false
set_option linter.unusedSimpArgs false

/-! ### MendBack -/

theorem back_math {W H n : Nat} {d e : Nat → Int} (p : Pv W H n d) (q : Pv W H n e) : ((brn W H n (xF W H d)).length = n ∨ (brn W H n (xF W H e)).length = n) → (brn W H n (xF W H (fun i => d i + e i))).length = n := by
  rintro (h | h)
  · exact back_add p h q fun k hk => rfl
  · refine back_add q h p fun k hk => ?_
    rw [show (fun i => e i + d i) = fun i => d i + e i from funext fun i => Int.add_comm _ _]
set_option maxHeartbeats 16000000 in
theorem lawBack (h : As.H) (W H : Int) (k : Nat) (d : Nat → Int) (hk : k ≤ 9223372036854775807) (m1 : Nat) (b1 : Nat → Int) (hm1 : m1 ≤ 9223372036854775807) (hb1 : ∀ i, i < m1 → 0 ≤ b1 i ∧ b1 i ≤ 255) :
    CallOk Try.prog 11 [plV W H false k d, .rsl false 1 m1 (bG b1)] h (.bool true) h := by
  have kWk := fun h : As.H => wwhole.everywhere rfl h
  rcases fine_split W H k d hk with ⟨w, hh, rfl, rfl, p⟩ | kF
  rotate_left
  · refine CallOk.run0 Try.func11 rfl rfl rfl rfl rfl (WpR.of_vc ?_)
    (conv => whnf); (repeat' (first | ((with_reducible refine ifb_mk (fun hc => ?_) (fun hc => ?_)) <;> ((try simp only [decide_eq_true_eq, decide_eq_false_iff_not, Bool.not_eq_true', Bool.not_eq_false', Int.not_lt, Int.not_le, ne_eq, Decidable.not_not, beq_iff_eq, List.cons.injEq, and_true] at hc); (first | (exfalso; omega) | exact absurd True.intro hc | conv => whnf))) | ((with_reducible refine And.intro True.intro ?_); conv => whnf) | ((with_reducible refine CallX.all ?_); refine CallW.of_ok (kF _) ?_; conv => whnf) | ((with_reducible refine CallX.all ?_); refine CallW.of_ok (kWk _) ?_; conv => whnf) | ((with_reducible refine WpR.draw (id := 25) mixed [0, 1, 2, 3, 4, 5, 6, 7, 8, 9, 10, 11, 12, 13, 14, 15, 16, 17, 18, 19] [0, 1, 3, 7, 3, 31, 63, 127, 255, 511, 1023, 2047, 1023, 1023, 13311, 29695, 65535, 131071, 262143, 524287] ?hh ?_); (case hh => kernel_rfl); conv => whnf) | ((with_reducible refine And.intro ?hh ?_); (case hh => exact condA); conv => whnf) | fail))
    all_goals (refine ⟨[], ?_, rfl, rfl, trivial, trivs⟩; simp only [renV, renL]; (first | done | rfl | (simp; done) | (simp; omega) | grind))
  have k0 := fun h' => fineV p h'
  have hle := p.le
  by_cases hl1 : 50 < m1
  · refine CallOk.run0 Try.func11 rfl rfl rfl rfl rfl (WpR.of_vc ?_)
    (conv => whnf); (repeat' (first | ((with_reducible refine ifb_mk (fun hc => ?_) (fun hc => ?_)) <;> ((try simp only [decide_eq_true_eq, decide_eq_false_iff_not, Bool.not_eq_true', Bool.not_eq_false', Int.not_lt, Int.not_le, ne_eq, Decidable.not_not, beq_iff_eq, List.cons.injEq, and_true] at hc); (first | (exfalso; omega) | exact absurd True.intro hc | conv => whnf))) | ((with_reducible refine And.intro True.intro ?_); conv => whnf) | ((with_reducible refine CallX.all ?_); refine CallW.of_ok (k0 _) ?_; conv => whnf) | ((with_reducible refine CallX.all ?_); refine CallW.of_ok (kWk _) ?_; conv => whnf) | ((with_reducible refine WpR.draw (id := 25) mixed [0, 1, 2, 3, 4, 5, 6, 7, 8, 9, 10, 11, 12, 13, 14, 15, 16, 17, 18, 19] [0, 1, 3, 7, 3, 31, 63, 127, 255, 511, 1023, 2047, 1023, 1023, 13311, 29695, 65535, 131071, 262143, 524287] ?hh ?_); (case hh => kernel_rfl); conv => whnf) | ((with_reducible refine And.intro ?hh ?_); (case hh => exact condA); conv => whnf) | fail))
    all_goals first | (refine ⟨[], ?_, rfl, rfl, trivial, trivs⟩; simp only [renV, renL]; (first | done | rfl | (simp; done) | (simp; omega) | grind)) | (exfalso; omega)
  have kQ := fun h' => sized_ok p h' false m1 hm1 b1 hb1 30 (by omega)
  have q := p.sized hb1 (mo := 30) (by omega)
  generalize szF m1 b1 30 = e at *
  have kP3 : Pv w hh k (fun _ => 3) := ⟨p.hw, p.hh, p.hn, fun i hi => by (try dsimp only); omega⟩
  have k3 := fun h' sv hs => sized3_ok p h' sv hs
  have b3 := fun h' => back_ok kP3 (fun i hi => Int.le_refl _) false h'
  rw [decide_eq_true (back_three p.hw p.hh p.hn fun k hk => rfl)] at b3
  have u1 := fun h' => flatV p h'
  have u2 := fun h' => flatV q h'
  have u3 := fun h' => uponH p q h'
  have v1 := fun h' => back_ok p.x p.flat false h'
  have v2 := fun h' => back_ok q.x q.flat false h'
  have v3 := fun h' => back_ok (p.sum q) (sum_flat p q) false h'
  have v4 := fun h' => burn_ok p.x p.flat false h'
  have hbk := back_math p q
  have hz : ∀ i kk, i < k → kk ∈ bsL w hh i → (brn w hh k (xF w hh d)).length = k → ¬ (xF w hh d i = 0 ∧ xF w hh d kk = 0) := fun i kk hi hkk hb => back_zero p.hw p.hh p.hn hb hi hkk
  have hln := (brn_le w hh k (xF w hh d)).le
  have kS := fun i (hi : i < k) h' => beside_ok h' w hh i p.hw p.hh (by rw [← p.hn]; exact hi)
  have hbl := fun i => bsL_len w hh i
  have hblt : ∀ i, i < k → ∀ j, j < (bsL w hh i).length → (bsL w hh i).getD j 0 < k ∧ (bsL w hh i).getD j 0 ∈ bsL w hh i := fun i hi j hj => by
    rw [List.getD_eq_getElem?_getD, List.getElem?_eq_getElem hj]
    have hm := List.getElem_mem hj
    exact ⟨by rw [p.hn]; exact bsL_lt p.hw p.hh (by rw [← p.hn]; exact hi) hm, hm⟩
  clear p q kP3
  generalize xF w hh (fun i => d i + e i) = z at *
  generalize xF w hh e = y at *
  generalize uF w hh e = v at *
  generalize uF w hh d = u at *
  generalize xF w hh d = x at *
  generalize brn w hh k x = L at *
  generalize (brn w hh k y).length = by' at *
  generalize (brn w hh k z).length = bz at *
  generalize bsL w hh = BS at *
  by_cases hA : L.length = k
  · rw [decide_eq_true (hbk (.inl hA))] at v3
    rw [decide_eq_true hA] at v1
    rw [hA] at v4
    generalize decide (by' = k) = bb at *
    refine CallOk.run0 Try.func11 rfl rfl rfl rfl rfl (WpR.of_vc ?_)
    (conv => whnf); (repeat' (first | ((with_reducible refine ifb_mk (fun hc => ?_) (fun hc => ?_)) <;> ((try simp only [decide_eq_true_eq, decide_eq_false_iff_not, Bool.not_eq_true', Bool.not_eq_false', Int.not_lt, Int.not_le, ne_eq, Decidable.not_not, beq_iff_eq, List.cons.injEq, and_true] at hc); (first | (exfalso; omega) | exact absurd True.intro hc | conv => whnf))) | ((with_reducible refine And.intro True.intro ?_); conv => whnf) | ((with_reducible refine CallX.all ?_); refine CallW.of_ok (k0 _) ?_; conv => whnf) | ((with_reducible refine CallX.all ?_); refine CallW.of_ok (kQ _) ?_; conv => whnf) | ((with_reducible refine CallX.all ?_); refine CallW.of_ok (u1 _) ?_; conv => whnf) | ((with_reducible refine CallX.all ?_); refine CallW.of_ok (u2 _) ?_; conv => whnf) | ((with_reducible refine CallX.all ?_); refine CallW.of_ok (u3 _) ?_; conv => whnf) | ((with_reducible refine CallX.all ?_); refine CallW.of_ok (v1 _) ?_; conv => whnf) | ((with_reducible refine CallX.all ?_); refine CallW.of_ok (v2 _) ?_; conv => whnf) | ((with_reducible refine CallX.all ?_); refine CallW.of_ok (v3 _) ?_; conv => whnf) | ((with_reducible refine CallX.all ?_); refine CallW.of_ok (v4 _) ?_; conv => whnf) | ((with_reducible refine CallX.all ?_); refine CallW.of_ok (k3 _ _ (SlC.own rfl)) ?_; conv => whnf) | ((with_reducible refine CallX.all ?_); refine CallW.of_ok (b3 _) ?_; conv => whnf) | ((with_reducible refine WpR.draw (id := 25) mixed [0, 1, 2, 3, 4, 5, 6, 7, 8, 9, 10, 11, 12, 13, 14, 15, 16, 17, 18, 19] [0, 1, 3, 7, 3, 31, 63, 127, 255, 511, 1023, 2047, 1023, 1023, 13311, 29695, 65535, 131071, 262143, 524287] ?hh ?_); (case hh => kernel_rfl); conv => whnf) | ((with_reducible refine And.intro ?hh ?_); (case hh => exact condA); conv => whnf) | fail))
    all_goals first | (exfalso; simp at hc; done) | skip
    refine WpR.loopA (ι := Nat) [] [2, 6, 14] [] [] 6 (fun i => [(24, .int .i64 i)]) (fun _ => []) (fun i => k - i) (fun i => i ≤ k) ?_ (0) (Nat.zero_le _) [] Back.auto
    intro i hi
    refine WpR.of_vc ?_
    by_cases hik : i < k
    · have kSi := kS i hik
      have hbi := hblt i hik
      have hzi := fun kk hm => hz i kk hik hm hA
      have hb4 := hbl i
      generalize BS i = l at *
      (conv => whnf); (repeat' (first | ((with_reducible refine ifb_mk (fun hc => ?_) (fun hc => ?_)) <;> ((try simp only [decide_eq_true_eq, decide_eq_false_iff_not, Bool.not_eq_true', Bool.not_eq_false', Int.not_lt, Int.not_le, ne_eq, Decidable.not_not, beq_iff_eq, List.cons.injEq, and_true] at hc); (first | (exfalso; omega) | exact absurd True.intro hc | conv => whnf))) | ((with_reducible refine And.intro True.intro ?_); conv => whnf) | ((with_reducible refine grd_and ?_); refine And.intro (hik) ?_; conv => whnf) | ((with_reducible refine CallX.all ?_); refine CallW.of_ok (kSi _) ?_; conv => whnf) | ((with_reducible refine WpR.draw (id := 25) mixed [0, 1, 2, 3, 4, 5, 6, 7, 8, 9, 10, 11, 12, 13, 14, 15, 16, 17, 18, 19] [0, 1, 3, 7, 3, 31, 63, 127, 255, 511, 1023, 2047, 1023, 1023, 13311, 29695, 65535, 131071, 262143, 524287] ?hh ?_); (case hh => kernel_rfl); conv => whnf) | ((with_reducible refine And.intro ?hh ?_); (case hh => exact condA); conv => whnf) | fail))
      refine WpR.loopA (ι := Nat) [] [2, 6, 14, 24, 25] [] [] 6 (fun j => [(26, .int .i64 j)]) (fun _ => []) (fun j => l.length - j) (fun j => j ≤ l.length) ?_ (0) (Nat.zero_le _) [] Back.auto
      intro j hj
      refine WpR.of_vc ?_
      by_cases hjl : j < l.length
      · obtain ⟨hy1, hy2⟩ := hbi j hjl
        have hv : iL l j = (l.getD j 0 : Nat) := rfl
        have hzy := hzi _ hy2
        by_cases h0 : x i = 0
        · have h1 : x (l.getD j 0) ≠ 0 := fun h => hzy ⟨h0, h⟩
          (conv => whnf); (repeat' (first | ((with_reducible refine ifb_mk (fun hc => ?_) (fun hc => ?_)) <;> ((try simp only [decide_eq_true_eq, decide_eq_false_iff_not, Bool.not_eq_true', Bool.not_eq_false', Int.not_lt, Int.not_le, ne_eq, Decidable.not_not, beq_iff_eq, List.cons.injEq, and_true] at hc); (first | (exfalso; omega) | exact absurd True.intro hc | conv => whnf))) | ((with_reducible refine And.intro True.intro ?_); conv => whnf) | ((with_reducible refine grd_and ?_); refine And.intro (hjl) ?_; conv => whnf) | ((with_reducible refine grd_and ?_); refine And.intro (hik) ?_; conv => whnf) | ((with_reducible refine grd_and ?_); refine And.intro (hy1) ?_; conv => whnf) | ((with_reducible refine WpR.draw (id := 25) mixed [0, 1, 2, 3, 4, 5, 6, 7, 8, 9, 10, 11, 12, 13, 14, 15, 16, 17, 18, 19] [0, 1, 3, 7, 3, 31, 63, 127, 255, 511, 1023, 2047, 1023, 1023, 13311, 29695, 65535, 131071, 262143, 524287] ?hh ?_); (case hh => kernel_rfl); conv => whnf) | (((with_reducible refine idxP_mk (k := l.getD j 0) ?hh ?_); (case hh => exact hv)); conv => whnf) | ((with_reducible refine And.intro ?hh ?_); (case hh => exact condA); conv => whnf) | fail))
          all_goals first | (exfalso; omega) | exact ⟨j + 1, [], by omega, by omega, Back.auto⟩
        · (conv => whnf); (repeat' (first | ((with_reducible refine ifb_mk (fun hc => ?_) (fun hc => ?_)) <;> ((try simp only [decide_eq_true_eq, decide_eq_false_iff_not, Bool.not_eq_true', Bool.not_eq_false', Int.not_lt, Int.not_le, ne_eq, Decidable.not_not, beq_iff_eq, List.cons.injEq, and_true] at hc); (first | (exfalso; omega) | exact absurd True.intro hc | conv => whnf))) | ((with_reducible refine And.intro True.intro ?_); conv => whnf) | ((with_reducible refine grd_and ?_); refine And.intro (hjl) ?_; conv => whnf) | ((with_reducible refine grd_and ?_); refine And.intro (hik) ?_; conv => whnf) | ((with_reducible refine grd_and ?_); refine And.intro (hy1) ?_; conv => whnf) | ((with_reducible refine WpR.draw (id := 25) mixed [0, 1, 2, 3, 4, 5, 6, 7, 8, 9, 10, 11, 12, 13, 14, 15, 16, 17, 18, 19] [0, 1, 3, 7, 3, 31, 63, 127, 255, 511, 1023, 2047, 1023, 1023, 13311, 29695, 65535, 131071, 262143, 524287] ?hh ?_); (case hh => kernel_rfl); conv => whnf) | (((with_reducible refine idxP_mk (k := l.getD j 0) ?hh ?_); (case hh => exact hv)); conv => whnf) | ((with_reducible refine And.intro ?hh ?_); (case hh => exact condA); conv => whnf) | fail))
          all_goals first | (exfalso; omega) | exact ⟨j + 1, [], by omega, by omega, Back.auto⟩
      · (conv => whnf); (repeat' (first | ((with_reducible refine ifb_mk (fun hc => ?_) (fun hc => ?_)) <;> ((try simp only [decide_eq_true_eq, decide_eq_false_iff_not, Bool.not_eq_true', Bool.not_eq_false', Int.not_lt, Int.not_le, ne_eq, Decidable.not_not, beq_iff_eq, List.cons.injEq, and_true] at hc); (first | (exfalso; omega) | exact absurd True.intro hc | conv => whnf))) | ((with_reducible refine And.intro True.intro ?_); conv => whnf) | ((with_reducible refine grd_and ?_); refine And.intro (hjl) ?_; conv => whnf) | ((with_reducible refine WpR.draw (id := 25) mixed [0, 1, 2, 3, 4, 5, 6, 7, 8, 9, 10, 11, 12, 13, 14, 15, 16, 17, 18, 19] [0, 1, 3, 7, 3, 31, 63, 127, 255, 511, 1023, 2047, 1023, 1023, 13311, 29695, 65535, 131071, 262143, 524287] ?hh ?_); (case hh => kernel_rfl); conv => whnf) | ((with_reducible refine And.intro ?hh ?_); (case hh => exact condA); conv => whnf) | fail))
        all_goals first | (exfalso; omega) | exact ⟨i + 1, [], by omega, by omega, Back.auto⟩
    · (conv => whnf); (repeat' (first | ((with_reducible refine ifb_mk (fun hc => ?_) (fun hc => ?_)) <;> ((try simp only [decide_eq_true_eq, decide_eq_false_iff_not, Bool.not_eq_true', Bool.not_eq_false', Int.not_lt, Int.not_le, ne_eq, Decidable.not_not, beq_iff_eq, List.cons.injEq, and_true] at hc); (first | (exfalso; omega) | exact absurd True.intro hc | conv => whnf))) | ((with_reducible refine And.intro True.intro ?_); conv => whnf) | ((with_reducible refine grd_and ?_); refine And.intro (hik) ?_; conv => whnf) | ((with_reducible refine CallX.all ?_); refine CallW.of_ok (kWk _) ?_; conv => whnf) | ((with_reducible refine WpR.draw (id := 25) mixed [0, 1, 2, 3, 4, 5, 6, 7, 8, 9, 10, 11, 12, 13, 14, 15, 16, 17, 18, 19] [0, 1, 3, 7, 3, 31, 63, 127, 255, 511, 1023, 2047, 1023, 1023, 13311, 29695, 65535, 131071, 262143, 524287] ?hh ?_); (case hh => kernel_rfl); conv => whnf) | ((with_reducible refine grd_ex ?_); refine ex_ok (kWk _) ?_; conv => whnf) | ((with_reducible refine And.intro ?hh ?_); (case hh => exact condA); conv => whnf) | fail))
      all_goals first | (refine ⟨[], ?_, rfl, rfl, trivial, trivs⟩; simp only [renV, renL]; (first | done | rfl | (simp; done) | (simp; omega) | grind)) | (exfalso; omega)
  · have hd : decide ((L.length : Int) = k) = false := decide_eq_false (by omega)
    rw [decide_eq_false hA] at v1
    by_cases hB : by' = k
    · rw [decide_eq_true (hbk (.inr hB))] at v3
      rw [decide_eq_true hB] at v2
      refine CallOk.run0 Try.func11 rfl rfl rfl rfl rfl (WpR.of_vc ?_)
      (conv => whnf); (repeat' (first | ((with_reducible refine ifb_mk (fun hc => ?_) (fun hc => ?_)) <;> ((try simp only [decide_eq_true_eq, decide_eq_false_iff_not, Bool.not_eq_true', Bool.not_eq_false', Int.not_lt, Int.not_le, ne_eq, Decidable.not_not, beq_iff_eq, List.cons.injEq, and_true] at hc); (first | (exfalso; omega) | exact absurd True.intro hc | conv => whnf))) | ((with_reducible refine And.intro True.intro ?_); conv => whnf) | ((with_reducible refine CallX.all ?_); refine CallW.of_ok (k0 _) ?_; conv => whnf) | ((with_reducible refine CallX.all ?_); refine CallW.of_ok (kQ _) ?_; conv => whnf) | ((with_reducible refine CallX.all ?_); refine CallW.of_ok (u1 _) ?_; conv => whnf) | ((with_reducible refine CallX.all ?_); refine CallW.of_ok (u2 _) ?_; conv => whnf) | ((with_reducible refine CallX.all ?_); refine CallW.of_ok (u3 _) ?_; conv => whnf) | ((with_reducible refine CallX.all ?_); refine CallW.of_ok (v1 _) ?_; conv => whnf) | ((with_reducible refine CallX.all ?_); refine CallW.of_ok (v2 _) ?_; conv => whnf) | ((with_reducible refine CallX.all ?_); refine CallW.of_ok (v3 _) ?_; conv => whnf) | ((with_reducible refine CallX.all ?_); refine CallW.of_ok (v4 _) ?_; conv => whnf) | ((with_reducible refine CallX.all ?_); refine CallW.of_ok (k3 _ _ (SlC.own rfl)) ?_; conv => whnf) | ((with_reducible refine CallX.all ?_); refine CallW.of_ok (b3 _) ?_; conv => whnf) | ((with_reducible refine WpR.draw (id := 25) mixed [0, 1, 2, 3, 4, 5, 6, 7, 8, 9, 10, 11, 12, 13, 14, 15, 16, 17, 18, 19] [0, 1, 3, 7, 3, 31, 63, 127, 255, 511, 1023, 2047, 1023, 1023, 13311, 29695, 65535, 131071, 262143, 524287] ?hh ?_); (case hh => kernel_rfl); conv => whnf) | ((with_reducible refine And.intro ?hh ?_); (case hh => exact condA); conv => whnf) | fail))
      all_goals first | (exfalso; omega) | (exfalso; simp at hc; done) | (exfalso; simp at hc; omega) | skip
      refine WpR.loopA (ι := Nat) [] [2, 6, 14] [] [] 6 (fun i => [(24, .int .i64 i)]) (fun _ => []) (fun i => k - i) (fun i => i ≤ k) ?_ (0) (Nat.zero_le _) [] Back.auto
      intro i hi
      refine WpR.of_vc ?_
      by_cases hik : i < k
      · have kSi := kS i hik
        have hbi := hblt i hik
        have hb4 := hbl i
        generalize BS i = l at *
        (conv => whnf); (repeat' (first | ((with_reducible refine ifb_mk (fun hc => ?_) (fun hc => ?_)) <;> ((try simp only [decide_eq_true_eq, decide_eq_false_iff_not, Bool.not_eq_true', Bool.not_eq_false', Int.not_lt, Int.not_le, ne_eq, Decidable.not_not, beq_iff_eq, List.cons.injEq, and_true] at hc); (first | (exfalso; omega) | exact absurd True.intro hc | conv => whnf))) | ((with_reducible refine And.intro True.intro ?_); conv => whnf) | ((with_reducible refine grd_and ?_); refine And.intro (hik) ?_; conv => whnf) | ((with_reducible refine CallX.all ?_); refine CallW.of_ok (kSi _) ?_; conv => whnf) | ((with_reducible refine WpR.draw (id := 25) mixed [0, 1, 2, 3, 4, 5, 6, 7, 8, 9, 10, 11, 12, 13, 14, 15, 16, 17, 18, 19] [0, 1, 3, 7, 3, 31, 63, 127, 255, 511, 1023, 2047, 1023, 1023, 13311, 29695, 65535, 131071, 262143, 524287] ?hh ?_); (case hh => kernel_rfl); conv => whnf) | ((with_reducible refine And.intro ?hh ?_); (case hh => exact condA); conv => whnf) | fail))
        refine WpR.loopA (ι := Nat) [] [2, 6, 14, 24, 25] [] [] 6 (fun j => [(26, .int .i64 j)]) (fun _ => []) (fun j => l.length - j) (fun j => j ≤ l.length) ?_ (0) (Nat.zero_le _) [] Back.auto
        intro j hj
        refine WpR.of_vc ?_
        by_cases hjl : j < l.length
        · obtain ⟨hy1, hy2⟩ := hbi j hjl
          have hv : iL l j = (l.getD j 0 : Nat) := rfl
          (conv => whnf); (repeat' (first | ((with_reducible refine ifb_mk (fun hc => ?_) (fun hc => ?_)) <;> ((try simp only [decide_eq_true_eq, decide_eq_false_iff_not, Bool.not_eq_true', Bool.not_eq_false', Int.not_lt, Int.not_le, ne_eq, Decidable.not_not, beq_iff_eq, List.cons.injEq, and_true] at hc); (first | (exfalso; omega) | exact absurd True.intro hc | conv => whnf))) | ((with_reducible refine And.intro True.intro ?_); conv => whnf) | ((with_reducible refine grd_and ?_); refine And.intro (hjl) ?_; conv => whnf) | ((with_reducible refine grd_and ?_); refine And.intro (hik) ?_; conv => whnf) | ((with_reducible refine grd_and ?_); refine And.intro (hy1) ?_; conv => whnf) | ((with_reducible refine WpR.draw (id := 25) mixed [0, 1, 2, 3, 4, 5, 6, 7, 8, 9, 10, 11, 12, 13, 14, 15, 16, 17, 18, 19] [0, 1, 3, 7, 3, 31, 63, 127, 255, 511, 1023, 2047, 1023, 1023, 13311, 29695, 65535, 131071, 262143, 524287] ?hh ?_); (case hh => kernel_rfl); conv => whnf) | (((with_reducible refine idxP_mk (k := l.getD j 0) ?hh ?_); (case hh => exact hv)); conv => whnf) | ((with_reducible refine And.intro ?hh ?_); (case hh => exact condA); conv => whnf) | fail))
          all_goals first | (exfalso; omega) | exact ⟨j + 1, [], by omega, by omega, Back.auto⟩
        · (conv => whnf); (repeat' (first | ((with_reducible refine ifb_mk (fun hc => ?_) (fun hc => ?_)) <;> ((try simp only [decide_eq_true_eq, decide_eq_false_iff_not, Bool.not_eq_true', Bool.not_eq_false', Int.not_lt, Int.not_le, ne_eq, Decidable.not_not, beq_iff_eq, List.cons.injEq, and_true] at hc); (first | (exfalso; omega) | exact absurd True.intro hc | conv => whnf))) | ((with_reducible refine And.intro True.intro ?_); conv => whnf) | ((with_reducible refine grd_and ?_); refine And.intro (hjl) ?_; conv => whnf) | ((with_reducible refine WpR.draw (id := 25) mixed [0, 1, 2, 3, 4, 5, 6, 7, 8, 9, 10, 11, 12, 13, 14, 15, 16, 17, 18, 19] [0, 1, 3, 7, 3, 31, 63, 127, 255, 511, 1023, 2047, 1023, 1023, 13311, 29695, 65535, 131071, 262143, 524287] ?hh ?_); (case hh => kernel_rfl); conv => whnf) | ((with_reducible refine And.intro ?hh ?_); (case hh => exact condA); conv => whnf) | fail))
          all_goals first | (exfalso; omega) | exact ⟨i + 1, [], by omega, by omega, Back.auto⟩
      · (conv => whnf); (repeat' (first | ((with_reducible refine ifb_mk (fun hc => ?_) (fun hc => ?_)) <;> ((try simp only [decide_eq_true_eq, decide_eq_false_iff_not, Bool.not_eq_true', Bool.not_eq_false', Int.not_lt, Int.not_le, ne_eq, Decidable.not_not, beq_iff_eq, List.cons.injEq, and_true] at hc); (first | (exfalso; omega) | exact absurd True.intro hc | conv => whnf))) | ((with_reducible refine And.intro True.intro ?_); conv => whnf) | ((with_reducible refine grd_and ?_); refine And.intro (hik) ?_; conv => whnf) | ((with_reducible refine CallX.all ?_); refine CallW.of_ok (kWk _) ?_; conv => whnf) | ((with_reducible refine WpR.draw (id := 25) mixed [0, 1, 2, 3, 4, 5, 6, 7, 8, 9, 10, 11, 12, 13, 14, 15, 16, 17, 18, 19] [0, 1, 3, 7, 3, 31, 63, 127, 255, 511, 1023, 2047, 1023, 1023, 13311, 29695, 65535, 131071, 262143, 524287] ?hh ?_); (case hh => kernel_rfl); conv => whnf) | ((with_reducible refine grd_ex ?_); refine ex_ok (kWk _) ?_; conv => whnf) | ((with_reducible refine And.intro ?hh ?_); (case hh => exact condA); conv => whnf) | fail))
        all_goals first | (refine ⟨[], ?_, rfl, rfl, trivial, trivs⟩; simp only [renV, renL]; (first | done | rfl | (simp; done) | (simp; omega) | grind)) | (exfalso; omega)
    · rw [decide_eq_false hB] at v2
      generalize decide (bz = k) = bc at *
      refine CallOk.run0 Try.func11 rfl rfl rfl rfl rfl (WpR.of_vc ?_)
      (conv => whnf); (repeat' (first | ((with_reducible refine ifb_mk (fun hc => ?_) (fun hc => ?_)) <;> ((try simp only [decide_eq_true_eq, decide_eq_false_iff_not, Bool.not_eq_true', Bool.not_eq_false', Int.not_lt, Int.not_le, ne_eq, Decidable.not_not, beq_iff_eq, List.cons.injEq, and_true] at hc); (first | (exfalso; omega) | exact absurd True.intro hc | conv => whnf))) | ((with_reducible refine And.intro True.intro ?_); conv => whnf) | ((with_reducible refine CallX.all ?_); refine CallW.of_ok (k0 _) ?_; conv => whnf) | ((with_reducible refine CallX.all ?_); refine CallW.of_ok (kQ _) ?_; conv => whnf) | ((with_reducible refine CallX.all ?_); refine CallW.of_ok (u1 _) ?_; conv => whnf) | ((with_reducible refine CallX.all ?_); refine CallW.of_ok (u2 _) ?_; conv => whnf) | ((with_reducible refine CallX.all ?_); refine CallW.of_ok (u3 _) ?_; conv => whnf) | ((with_reducible refine CallX.all ?_); refine CallW.of_ok (v1 _) ?_; conv => whnf) | ((with_reducible refine CallX.all ?_); refine CallW.of_ok (v2 _) ?_; conv => whnf) | ((with_reducible refine CallX.all ?_); refine CallW.of_ok (v3 _) ?_; conv => whnf) | ((with_reducible refine CallX.all ?_); refine CallW.of_ok (v4 _) ?_; conv => whnf) | ((with_reducible refine CallX.all ?_); refine CallW.of_ok (k3 _ _ (SlC.own rfl)) ?_; conv => whnf) | ((with_reducible refine CallX.all ?_); refine CallW.of_ok (b3 _) ?_; conv => whnf) | ((with_reducible refine WpR.draw (id := 25) mixed [0, 1, 2, 3, 4, 5, 6, 7, 8, 9, 10, 11, 12, 13, 14, 15, 16, 17, 18, 19] [0, 1, 3, 7, 3, 31, 63, 127, 255, 511, 1023, 2047, 1023, 1023, 13311, 29695, 65535, 131071, 262143, 524287] ?hh ?_); (case hh => kernel_rfl); conv => whnf) | ((with_reducible refine And.intro ?hh ?_); (case hh => exact condA); conv => whnf) | fail))
      all_goals first | (exfalso; omega) | (exfalso; simp at hc; done) | (exfalso; simp at hc; omega) | skip
      refine WpR.loopA (ι := Nat) [] [2, 6, 14] [] [] 6 (fun i => [(24, .int .i64 i)]) (fun _ => []) (fun i => k - i) (fun i => i ≤ k) ?_ (0) (Nat.zero_le _) [] Back.auto
      intro i hi
      refine WpR.of_vc ?_
      by_cases hik : i < k
      · have kSi := kS i hik
        have hbi := hblt i hik
        have hb4 := hbl i
        generalize BS i = l at *
        (conv => whnf); (repeat' (first | ((with_reducible refine ifb_mk (fun hc => ?_) (fun hc => ?_)) <;> ((try simp only [decide_eq_true_eq, decide_eq_false_iff_not, Bool.not_eq_true', Bool.not_eq_false', Int.not_lt, Int.not_le, ne_eq, Decidable.not_not, beq_iff_eq, List.cons.injEq, and_true] at hc); (first | (exfalso; omega) | exact absurd True.intro hc | conv => whnf))) | ((with_reducible refine And.intro True.intro ?_); conv => whnf) | ((with_reducible refine grd_and ?_); refine And.intro (hik) ?_; conv => whnf) | ((with_reducible refine CallX.all ?_); refine CallW.of_ok (kSi _) ?_; conv => whnf) | ((with_reducible refine WpR.draw (id := 25) mixed [0, 1, 2, 3, 4, 5, 6, 7, 8, 9, 10, 11, 12, 13, 14, 15, 16, 17, 18, 19] [0, 1, 3, 7, 3, 31, 63, 127, 255, 511, 1023, 2047, 1023, 1023, 13311, 29695, 65535, 131071, 262143, 524287] ?hh ?_); (case hh => kernel_rfl); conv => whnf) | ((with_reducible refine And.intro ?hh ?_); (case hh => exact condA); conv => whnf) | fail))
        refine WpR.loopA (ι := Nat) [] [2, 6, 14, 24, 25] [] [] 6 (fun j => [(26, .int .i64 j)]) (fun _ => []) (fun j => l.length - j) (fun j => j ≤ l.length) ?_ (0) (Nat.zero_le _) [] Back.auto
        intro j hj
        refine WpR.of_vc ?_
        by_cases hjl : j < l.length
        · obtain ⟨hy1, hy2⟩ := hbi j hjl
          have hv : iL l j = (l.getD j 0 : Nat) := rfl
          (conv => whnf); (repeat' (first | ((with_reducible refine ifb_mk (fun hc => ?_) (fun hc => ?_)) <;> ((try simp only [decide_eq_true_eq, decide_eq_false_iff_not, Bool.not_eq_true', Bool.not_eq_false', Int.not_lt, Int.not_le, ne_eq, Decidable.not_not, beq_iff_eq, List.cons.injEq, and_true] at hc); (first | (exfalso; omega) | exact absurd True.intro hc | conv => whnf))) | ((with_reducible refine And.intro True.intro ?_); conv => whnf) | ((with_reducible refine grd_and ?_); refine And.intro (hjl) ?_; conv => whnf) | ((with_reducible refine grd_and ?_); refine And.intro (hik) ?_; conv => whnf) | ((with_reducible refine grd_and ?_); refine And.intro (hy1) ?_; conv => whnf) | ((with_reducible refine WpR.draw (id := 25) mixed [0, 1, 2, 3, 4, 5, 6, 7, 8, 9, 10, 11, 12, 13, 14, 15, 16, 17, 18, 19] [0, 1, 3, 7, 3, 31, 63, 127, 255, 511, 1023, 2047, 1023, 1023, 13311, 29695, 65535, 131071, 262143, 524287] ?hh ?_); (case hh => kernel_rfl); conv => whnf) | (((with_reducible refine idxP_mk (k := l.getD j 0) ?hh ?_); (case hh => exact hv)); conv => whnf) | ((with_reducible refine And.intro ?hh ?_); (case hh => exact condA); conv => whnf) | fail))
          all_goals first | (exfalso; omega) | exact ⟨j + 1, [], by omega, by omega, Back.auto⟩
        · (conv => whnf); (repeat' (first | ((with_reducible refine ifb_mk (fun hc => ?_) (fun hc => ?_)) <;> ((try simp only [decide_eq_true_eq, decide_eq_false_iff_not, Bool.not_eq_true', Bool.not_eq_false', Int.not_lt, Int.not_le, ne_eq, Decidable.not_not, beq_iff_eq, List.cons.injEq, and_true] at hc); (first | (exfalso; omega) | exact absurd True.intro hc | conv => whnf))) | ((with_reducible refine And.intro True.intro ?_); conv => whnf) | ((with_reducible refine grd_and ?_); refine And.intro (hjl) ?_; conv => whnf) | ((with_reducible refine WpR.draw (id := 25) mixed [0, 1, 2, 3, 4, 5, 6, 7, 8, 9, 10, 11, 12, 13, 14, 15, 16, 17, 18, 19] [0, 1, 3, 7, 3, 31, 63, 127, 255, 511, 1023, 2047, 1023, 1023, 13311, 29695, 65535, 131071, 262143, 524287] ?hh ?_); (case hh => kernel_rfl); conv => whnf) | ((with_reducible refine And.intro ?hh ?_); (case hh => exact condA); conv => whnf) | fail))
          all_goals first | (exfalso; omega) | exact ⟨i + 1, [], by omega, by omega, Back.auto⟩
      · (conv => whnf); (repeat' (first | ((with_reducible refine ifb_mk (fun hc => ?_) (fun hc => ?_)) <;> ((try simp only [decide_eq_true_eq, decide_eq_false_iff_not, Bool.not_eq_true', Bool.not_eq_false', Int.not_lt, Int.not_le, ne_eq, Decidable.not_not, beq_iff_eq, List.cons.injEq, and_true] at hc); (first | (exfalso; omega) | exact absurd True.intro hc | conv => whnf))) | ((with_reducible refine And.intro True.intro ?_); conv => whnf) | ((with_reducible refine grd_and ?_); refine And.intro (hik) ?_; conv => whnf) | ((with_reducible refine CallX.all ?_); refine CallW.of_ok (kWk _) ?_; conv => whnf) | ((with_reducible refine WpR.draw (id := 25) mixed [0, 1, 2, 3, 4, 5, 6, 7, 8, 9, 10, 11, 12, 13, 14, 15, 16, 17, 18, 19] [0, 1, 3, 7, 3, 31, 63, 127, 255, 511, 1023, 2047, 1023, 1023, 13311, 29695, 65535, 131071, 262143, 524287] ?hh ?_); (case hh => kernel_rfl); conv => whnf) | ((with_reducible refine grd_ex ?_); refine ex_ok (kWk _) ?_; conv => whnf) | ((with_reducible refine And.intro ?hh ?_); (case hh => exact condA); conv => whnf) | fail))
        all_goals first | (refine ⟨[], ?_, rfl, rfl, trivial, trivs⟩; simp only [renV, renL]; (first | done | rfl | (simp; done) | (simp; omega) | grind)) | (exfalso; omega)
end Go.Proofs.H

