/- What the functions answer that the laws call, one after another (B3). -/
import Derived.Test.YtgopneibaajgbaaAs6
import Derived.Test.YtgopneibaajgbaaB2

set_option linter.unusedVariables false
namespace Go.Proofs.H
open Go.As
set_option maxRecDepth 20000
set_option linter.unusedVariables false
set_option linter.unusedSimpArgs false

/-! ### Hammered flat -/

abbrev S4 := F2 × (List En × Nat)
def stpE (W H : Nat) (s : S4) : S4 :=
  if fst4 s.1.1 (W * H) < W * H then (stp (W * H) (adI W H) s.1, hitE W H s.1.1 s.2.1 s.2.2 (fst4 s.1.1 (W * H)) (s.1.1 (fst4 s.1.1 (W * H)) / 4) 4) else s
def itrE (W H : Nat) : Nat → S4 → S4
  | 0, s => s
  | k + 1, s => itrE W H k (stpE W H s)
theorem stpE_fst (W H : Nat) (s : S4) : (stpE W H s).1 = stp (W * H) (adI W H) s.1 := by
  unfold stpE
  split
  · rfl
  · rename_i h; unfold stp; rw [if_neg h]
theorem itrE_fst (W H : Nat) : ∀ (k : Nat) (s : S4), (itrE W H k s).1 = itr (W * H) (adI W H) k s.1
  | 0, s => rfl
  | k + 1, s => by rw [itrE, itrE_fst W H k, stpE_fst]; rfl
theorem itrE_n {W H : Nat} {s : S4} (h : ∀ j, j < W * H → s.1.1 j ≤ 3) : ∀ k, itrE W H k s = s
  | 0 => rfl
  | k + 1 => by
    have e : stpE W H s = s := by unfold stpE; rw [fst4_n h, if_neg (Nat.lt_irrefl _)]
    rw [itrE, e]; exact itrE_n h k
theorem stpE_map {W H : Nat} (hW : 1 ≤ W ∧ W ≤ 6) (hH : 1 ≤ H ∧ H ≤ 6) {s : S4} (m : MapOk W (W * H) s.1.1 s.2.1) : MapOk W (W * H) (stpE W H s).1.1 (stpE W H s).2.1 := by
  unfold stpE
  split
  · rename_i h
    have h1 := hitE_ok hW hH m h (s.1.1 (fst4 s.1.1 (W * H)) / 4) s.2.2 4 (Nat.le_refl _)
    rw [hitJ_4] at h1
    unfold stp
    rw [if_pos h]
    exact h1
  · exact m
theorem itrE_map {W H : Nat} (hW : 1 ≤ W ∧ W ≤ 6) (hH : 1 ≤ H ∧ H ≤ 6) : ∀ (k : Nat) {s : S4}, MapOk W (W * H) s.1.1 s.2.1 → MapOk W (W * H) (itrE W H k s).1.1 (itrE W H k s).2.1
  | 0, _, m => m
  | k + 1, _, m => itrE_map hW hH k (stpE_map hW hH m)
/-- What becomes of a plate, of its blows, of the map. -/
def finE (W H : Nat) (a : Nat → Int) (E : List En) (c : Nat) : S4 := itrE W H (pt (W * H) (wgt W) a).toNat ((a, fun _ => 0), (E, c))
theorem finE_fst (W H : Nat) (a : Nat → Int) (E : List En) (c : Nat) : (finE W H a E c).1 = fin (W * H) (adI W H) (wgt W) a := itrE_fst W H _ _
theorem finE_map {W H : Nat} (hW : 1 ≤ W ∧ W ≤ 6) (hH : 1 ≤ H ∧ H ≤ 6) {a : Nat → Int} {E : List En} (c : Nat) (m : MapOk W (W * H) a E) (h0 : ∀ k, k < W * H → 0 ≤ a k) : (finE W H a E c).2.1 = [] := by
  have h := itrE_map hW hH (pt (W * H) (wgt W) a).toNat (s := ((a, fun _ => 0), (E, c))) m
  refine h.flat fun i hi => ?_
  have e := finE_fst W H a E c
  unfold finE at e
  rw [e]
  exact fin_flat (gr_ok hW hH) h0 i hi
set_option maxHeartbeats 8000000 in
theorem hammer_w (W H : Nat) (hW : 1 ≤ W ∧ W ≤ 6) (hH : 1 ≤ H ∧ H ≤ 6) (D : V) (hD : bare0 D = true) (a u : Nat → Int) (E : List En) (c : Nat) (hm : MapOk W (W * H) a E) (h0 : ∀ k, k < W * H → 0 ≤ a k) (h1 : ∀ k, k < W * H → a k ≤ 1000) (hu : Sml (W * H) 274877906944 u) :
    CallW Try.prog [] 65 [.ptr 0 0] (hp [BB W H D a u 1, .map (encM E) c])
      (LowK (.tup []) [BB W H D (fin (W * H) (adI W H) (wgt W) a).1 (fun k => u k + (fin (W * H) (adI W H) (wgt W) a).2 k) 1, .map (encM []) (finE W H a E c).2.2]) := by
  refine CallW.inline (f := 65) Try.func65 rfl rfl (Nat.le_of_ble_eq_true rfl) (WpR.of_vc ?_)
  have hwh := wh_le hW hH
  have g := gr_ok hW hH
  have hp0 : pt (W * H) (wgt W) a ≤ 432000 := by
    have := pt_le g (wgt_le hW hH) h1 (by omega)
    have h2 : ((W * H : Nat) : Int) * (12 * 1000) ≤ 36 * (12 * 1000) := Int.mul_le_mul_of_nonneg_right (by omega) (by omega)
    omega
  have hF := finE_fst W H a E c
  have hFm := finE_map hW hH c hm h0
  have hFf := fin_flat g h0
  have hmid := Mid.start (n := W * H) (A := adI W H) (w := wgt W) h0
  obtain ⟨Bs, hBs⟩ : ∃ Bs : S4 → Tr V, ∀ s, Bs s = BC W H D s.1.1 (fun k => u k + s.1.2 k) 1 := ⟨fun s => _, fun s => rfl⟩
  have hstart : BB W H D a u 1 = .cells (Bs ((a, fun _ => 0), (E, c))) true none := by rw [hBs]; show BB W H D a u 1 = BB W H D a (fun k => u k + 0) 1; congr 1; funext k; omega
  have hfin : SubQ id (BB W H D (fin (W * H) (adI W H) (wgt W) a).1 (fun k => u k + (fin (W * H) (adI W H) (wgt W) a).2 k) 1) (.cells (Bs (finE W H a E c)) true none) := by rw [hBs, hF]; exact bb_sub id hD
  rw [hstart, ← hFm]
  have hlt : ∀ n s, 1 < n → ltB n (.cells (Bs s) true none) := fun n s hn => by rw [hBs]; exact bb_lt hD hn
  have hg0 : ∀ s, (Bs s).get 0 = some (.int .i64 W) := fun s => by rw [hBs]; exact bc_0
  have hg1 : ∀ s, (Bs s).get 1 = some (.int .i64 H) := fun s => by rw [hBs]; exact bc_1
  have hga : ∀ (s : S4) (o i : Nat), o = 3 + i → i < 36 → (Bs s).get o = some (.int .i64 (s.1.1 i)) := fun s o i ho hi => by rw [hBs]; exact bc_a ho hi
  have kF := fun (s : S4) (m : MapOk W (W * H) s.1.1 s.2.1) (h' : As.H) (hs : h'.get 0 = some (.cells (Bs s) true none)) (he : h'.get 1 = some (.map (encM s.2.1) s.2.2)) (hx : h'.get 2 = some (.cells (ofL [.ptr 0 0] 0) true none)) =>
    first_ok h' 0 1 2 W H hW hH D hD s.1.1 (fun k => u k + s.1.2 k) s.2.1 s.2.2 m hs (fun k => by rw [hBs]) he hx (by decide)
  have kI := fun (s : S4) i p2 p3 (h' : As.H) (hs : h'.get 0 = some (.cells (Bs s) true none)) => index_ok h' 0 W H (i % W) (i / W) p2 p3 hW hs (hg0 s) (hg1 s)
  have kH : ∀ (s : S4) (i : Nat), Mid (W * H) (adI W H) (wgt W) a s.1 → i < W * H → 3 < s.1.1 i → (∀ j, j < i → s.1.1 j ≤ 3) → ∀ h' : As.H, h'.get 0 = some (.cells (Bs s) true none) → h'.get 1 = some (.map (encM s.2.1) s.2.2) →
      CallOk Try.prog 57 [.ptr 0 0, spV (i % W : Nat) (i / W : Nat), .int .i64 (s.1.1 i / 4)] h' (.tup []) ((h'.put 0 (.cells (Bs (stpE W H s)) true none)).put 1 (.map (encM (stpE W H s).2.1) (stpE W H s).2.2)) := fun s i m hi h3 hj h' hs he => by
    have hpn := fun k hk => le_pt g m.nn (i := k) hk
    have hpt : ∀ k, k < W * H → 0 ≤ s.1.1 k ∧ s.1.1 k ≤ 432000 ∧ 0 ≤ s.1.2 k ∧ s.1.2 k ≤ 432000 := fun k hk => by
      have q1 := m.pv k hk
      have q2 := m.vn k hk
      have q3 := m.nn k hk
      have q4 := hpn k hk
      have q5 := pt_nn g m.nn
      omega
    have q := hpt i hi
    have := hit_ok h' 0 1 W H i hW hH hi D hD s.1.1 (fun k => u k + s.1.2 k) s.2.1 s.2.2 (s.1.1 i / 4) (by omega) (fun k hk => by have := hpt k hk; omega) (fun k hk => by have := hpt k hk; have := hu k hk; dsimp only; omega) hs (fun k => by rw [hBs]) he
    have ef := fst4_at hi h3 hj
    have e1 : stpE W H s = ((hitA (adI W H) s.1.1 i (s.1.1 i / 4), fun k => s.1.2 k + ee i (s.1.1 i / 4) k), hitE W H s.1.1 s.2.1 s.2.2 i (s.1.1 i / 4) 4) := by
      unfold stpE
      rw [ef, if_pos hi, stp_at hi h3 hj]
    have e2 : rs (fun k => u k + s.1.2 k) i (s.1.1 i / 4) = fun k => u k + (s.1.2 k + ee i (s.1.1 i / 4) k) := by
      funext k; unfold rs ee; dsimp only; by_cases he : k = i; (rw [if_pos he, if_pos he]; omega); (rw [if_neg he, if_neg he]; omega)
    rw [e2] at this
    rw [hBs, e1]
    exact this
  have hstep := fun (s : S4) (m : MapOk W (W * H) s.1.1 s.2.1) => stpE_map hW hH m
  have hst1 : ∀ s : S4, Mid (W * H) (adI W H) (wgt W) a s.1 → Mid (W * H) (adI W H) (wgt W) a (stpE W H s).1 := fun s m => by rw [stpE_fst]; exact m.stp g
  have hdec := fun (s : S4) => fst4_spec s.1.1 (W * H)
  have hFE : finE W H a E c = itrE W H (pt (W * H) (wgt W) a).toNat ((a, fun _ => 0), (E, c)) := rfl
  have hit0 : ∀ s : S4, itrE W H 0 s = s := fun s => rfl
  have hitS : ∀ (k : Nat) (s : S4), itrE W H (k + 1) s = itrE W H k (stpE W H s) := fun k s => rfl
  have hitN := fun (s : S4) h => itrE_n (W := W) (H := H) (s := s) h
  rw [← hF] at hFf
  have hx0 : Mid (W * H) (adI W H) (wgt W) a ((a, fun _ => 0), (E, c)).1 := hmid
  have hxm : MapOk W (W * H) ((((a, fun _ => 0), (E, c)) : S4)).1.1 ((((a, fun _ => 0), (E, c)) : S4)).2.1 := hm
  have hpos := fun i (hi : i < W * H) => pos_lt hW hH hi
  have hmap0 : (.map (encM E) c : Blk) = .map (encM ((((a, fun _ => 0), (E, c)) : S4)).2.1) ((((a, fun _ => 0), (E, c)) : S4)).2.2 := rfl
  rw [hmap0]
  generalize finE W H a E c = F at *
  generalize (((a, fun _ => 0), (E, c)) : S4) = s0 at *
  generalize stpE W H = st at *
  generalize itrE W H = it at *
  generalize (pt (W * H) (wgt W) a).toNat = K at *
  have hMap : ∀ s, ltB 2 (.cells (Bs s) true none) := fun s => hlt 2 s (by omega)
  have hMapB : ∀ s, ltB 1000 (.cells (Bs s) true none) := fun s => hlt 1000 s (by omega)
  have hMapC : ∀ n (s : S4), ltB n (.map (encM s.2.1) s.2.2) := fun n s => encM_lt
  refine WpR.loopA (ι := S4 × Nat) [] [0] [0, 1] [] 2 (fun p => []) (fun p => [(0, .cells (Bs p.1) true none), (1, .map (encM p.1.2.1) p.1.2.2)]) (fun p => p.2) (fun p => Mid (W * H) (adI W H) (wgt W) a p.1.1 ∧ MapOk W (W * H) p.1.1.1 p.1.2.1 ∧ it p.2 p.1 = F) ?_ ((s0, K)) (⟨hx0, hxm, hFE.symm⟩) [] Back.auto
  rintro ⟨s, m⟩ ⟨j1, j2, j3⟩
  dsimp only at j1 j2 j3
  refine WpR.of_vc ?_
  have kFs := kF s j2
  obtain ⟨d1, d2, d3⟩ := hdec s
  by_cases hI : fst4 s.1.1 (W * H) < W * H
  · have d4 := d3 hI
    have kHs := kH s _ j1 hI d4 d2
    obtain ⟨p1, p2, p3, _, _⟩ := hpos _ hI
    have kIs := kI s _ p2 p3
    rw [idx_eq] at kIs
    unfold fstV at kFs
    rw [if_pos hI] at kFs
    generalize fst4 s.1.1 (W * H) = i at *
    have ga := hga s (3 + (i : Int).toNat * 1) i (by omega) p1
    have hs4 := hst1 s j1
    have hs5 := hstep s j2
    have hm0 : m ≠ 0 := fun e => by
      subst e
      rw [hit0] at j3
      subst j3
      have := hFf i hI
      omega
    obtain ⟨m, rfl⟩ : ∃ m', m = m' + 1 := ⟨m - 1, by omega⟩
    rw [hitS] at j3
    have y0 : (0 : Int) ≤ s.1.1 i := by omega
    have y1 : s.1.1 i ≤ 432000 := by
      have q1 := j1.pv i hI
      have q2 := j1.vn i hI
      have q3 := le_pt g j1.nn hI
      omega
    have eq4 : (s.1.1 i).tdiv 4 = s.1.1 i / 4 := Int.tdiv_eq_ediv_of_nonneg y0
    rw [← eq4] at kHs
    generalize s.1.1 i = ai at *
    have y2 : InR (ai.tdiv 4) := by rw [eq4]; unfold InR; omega
    (conv => whnf); (repeat' (first | ((with_reducible refine ifb_mk (fun hc => ?_) (fun hc => ?_)) <;> ((try simp only [decide_eq_true_eq, decide_eq_false_iff_not, Bool.not_eq_true', Bool.not_eq_false', Int.not_lt, Int.not_le, ne_eq, Decidable.not_not, beq_iff_eq, List.cons.injEq, and_true] at hc); (first | (exfalso; omega) | exact absurd True.intro hc | conv => whnf))) | ((with_reducible refine And.intro True.intro ?_); conv => whnf) | ((with_reducible refine CallX.all (f := 61) ?_); refine CallW.inline Try.func61 rfl rfl (Nat.le_of_ble_eq_true rfl) (WpR.of_vc ?_); conv => whnf) | ((with_reducible refine CallX.all ?_); refine CallW.of_ok (kFs _ rfl rfl rfl) ?_; conv => whnf) | ((with_reducible refine WpR.drawTail (id := 2) mixed 11 [0, 1, 2, 3, 4, 6, 7, 5, 8, 9, 10] [0, 0, 0, 0, 0, 24, 4, 68, 252, 508, 1020] ?hh ?hk ?_); (case hh => kernel_rfl); (case hk => kernel_rfl); conv => whnf) | ((with_reducible refine grd_ex ?_); refine ex_ok (kIs _ rfl) ?_; conv => whnf) | (refine som_mk (ga) ?_; conv => whnf) | ((with_reducible refine grd_and ?_); refine And.intro (y2) ?_; conv => whnf) | ((with_reducible refine CallX.all ?_); refine CallW.of_ok (kHs _ rfl rfl) ?_; conv => whnf) | ((with_reducible refine And.intro ?hh ?_); (case hh => exact condA); conv => whnf) | fail))
    exact ⟨(st s, m), [], by dsimp only; omega, ⟨hs4, hs5, j3⟩, Back.auto⟩
  · have hf : ∀ j, j < W * H → s.1.1 j ≤ 3 := fun j hj => d2 j (by omega)
    have e := (hitN s hf m).symm.trans j3
    subst e
    unfold fstV at kFs
    rw [if_neg hI] at kFs
    (conv => whnf); (repeat' (first | ((with_reducible refine ifb_mk (fun hc => ?_) (fun hc => ?_)) <;> ((try simp only [decide_eq_true_eq, decide_eq_false_iff_not, Bool.not_eq_true', Bool.not_eq_false', Int.not_lt, Int.not_le, ne_eq, Decidable.not_not, beq_iff_eq, List.cons.injEq, and_true] at hc); (first | (exfalso; omega) | exact absurd True.intro hc | conv => whnf))) | ((with_reducible refine And.intro True.intro ?_); conv => whnf) | ((with_reducible refine CallX.all (f := 61) ?_); refine CallW.inline Try.func61 rfl rfl (Nat.le_of_ble_eq_true rfl) (WpR.of_vc ?_); conv => whnf) | ((with_reducible refine CallX.all ?_); refine CallW.of_ok (kFs _ rfl rfl rfl) ?_; conv => whnf) | ((with_reducible refine And.intro ?hh ?_); (case hh => exact condA); conv => whnf) | fail))
    exact ⟨rfl, ⟨_, rfl, hfin⟩, ⟨_, rfl, encM_sub⟩, trivial⟩
theorem hammer_ok (h : As.H) (s mb W H : Nat) (hW : 1 ≤ W ∧ W ≤ 6) (hH : 1 ≤ H ∧ H ≤ 6) (D : V) (hD : bare0 D = true) (a u : Nat → Int) (E : List En) (c : Nat) (hm : MapOk W (W * H) a E) (h0 : ∀ k, k < W * H → 0 ≤ a k) (h1 : ∀ k, k < W * H → a k ≤ 1000) (hu : Sml (W * H) 274877906944 u)
    {cs : Tr V} (hs : h.get s = some (.cells cs true none)) (hcs : ∀ k, cs.get k = (BC W H D a u mb).get k) (he : h.get mb = some (.map (encM E) c)) :
    CallOk Try.prog 65 [.ptr s 0] h (.tup []) ((h.put s (BB W H D (fin (W * H) (adI W H) (wgt W) a).1 (fun k => u k + (fin (W * H) (adI W H) (wgt W) a).2 k) mb)).put mb (.map (encM []) (finE W H a E c).2.2)) :=
  blk_call hs hcs he hD (argsC := [.ptr 0 0]) rfl rfl rfl (hammer_w W H hW hH D hD a u E c hm h0 h1 hu)
end Go.Proofs.H

namespace Go.Proofs.H
open Go.As
set_option maxRecDepth 20000
set_option linter.unusedVariables false
set_option linter.unusedSimpArgs false

/-! ### Plates, and a block of one -/

def plV (W H : Int) (ex : Bool) (k : Nat) (d : Nat → Int) : V := .agg [.int .i64 W, .int .i64 H, .rsl ex 1 k (iG d)]
/-- CheckPlate: the error. -/
def ckP (W H : Int) (k : Nat) (d : Nat → Int) : Int := if (1 ≤ W ∧ W ≤ 6) ∧ 1 ≤ H ∧ H ≤ 6 then (if (k : Int) = W * H then (if wiR 0 30 k d = true then 0 else 2) else 15) else 3
theorem ckP_n {W H : Int} {k : Nat} {d : Nat → Int} (h : ckP W H k d = 0) : ((1 ≤ W ∧ W ≤ 6) ∧ 1 ≤ H ∧ H ≤ 6) ∧ (k : Int) = W * H ∧ ∀ i, i < k → 0 ≤ d i ∧ d i ≤ 30 := by
  unfold ckP at h
  (repeat' split at h) <;> first | (cases h; done) | skip
  rename_i h1 h2 h3
  exact ⟨h1, h2, fun i hi => of_decide_eq_true (allF_iff.1 h3 i hi)⟩
theorem ckP_v {W H : Nat} {k : Nat} {d : Nat → Int} (h1 : (1 ≤ W ∧ W ≤ 6) ∧ 1 ≤ H ∧ H ≤ 6) (h2 : k = W * H) (h3 : ∀ i, i < k → 0 ≤ d i ∧ d i ≤ 30) : ckP W H k d = 0 := by
  unfold ckP
  rw [if_pos (by omega), if_pos (by rw [h2]; exact Int.natCast_mul W H), if_pos (show wiR 0 30 k d = true from allF_t fun i hi => decide_eq_true (h3 i hi))]
/-- A valid plate's width and height. -/
theorem ckP_nat {W H : Int} {k : Nat} {d : Nat → Int} (h : ckP W H k d = 0) : ∃ w h : Nat, W = w ∧ H = h ∧ (1 ≤ w ∧ w ≤ 6) ∧ (1 ≤ h ∧ h ≤ 6) ∧ k = w * h := by
  obtain ⟨⟨h1, h2⟩, h3, _⟩ := ckP_n h
  refine ⟨W.toNat, H.toNat, by omega, by omega, by omega, by omega, ?_⟩
  have e1 : W = (W.toNat : Int) := by omega
  have e2 : H = (H.toNat : Int) := by omega
  rw [e1, e2, ← Int.natCast_mul] at h3
  exact Int.ofNat.inj h3
set_option maxHeartbeats 2000000 in
theorem checkPlate_ok (h : As.H) (W H : Int) (ex : Bool) (k : Nat) (d : Nat → Int) (hk : k ≤ 9223372036854775807) : CallOk Try.prog 22 [plV W H ex k d] h (.int .i64 (ckP W H k d)) h := by
  have k1 := fun h' sv hs => within2_ok h' 1 6 W H sv hs
  have k2 := fun h' => within64R_ok h' 0 30 k d ex hk
  unfold ckP
  generalize wiR 0 30 k d = z at *
  refine CallOk.run0 Try.func22 rfl rfl rfl rfl rfl (WpR.of_vc ?_)
  by_cases h1 : (1 ≤ W ∧ W ≤ 6) ∧ 1 ≤ H ∧ H ≤ 6
  · rw [if_pos h1]
    rw [decide_eq_true h1] at k1
    have hr : InR (W * H) := by
      have a1 : W * H ≤ 6 * 6 := Int.mul_le_mul h1.1.2 h1.2.2 (by omega) (by omega)
      have a2 : 0 ≤ W * H := Int.mul_nonneg (by omega) (by omega)
      unfold InR; omega
    by_cases h2 : (k : Int) = W * H
    · rw [if_pos h2]
      cases z with
      | true => (conv => whnf); (repeat' (first | ((with_reducible refine ifb_mk (fun hc => ?_) (fun hc => ?_)) <;> ((try simp only [decide_eq_true_eq, decide_eq_false_iff_not, Bool.not_eq_true', Bool.not_eq_false', Int.not_lt, Int.not_le, ne_eq, Decidable.not_not, beq_iff_eq, List.cons.injEq, and_true] at hc); (first | (exfalso; omega) | exact absurd True.intro hc | conv => whnf))) | ((with_reducible refine And.intro True.intro ?_); conv => whnf) | ((with_reducible refine CallX.all ?_); refine CallW.of_ok (k1 _ _ (SlC.own rfl)) ?_; conv => whnf) | ((with_reducible refine CallX.all ?_); refine CallW.of_ok (k2 _) ?_; conv => whnf) | ((with_reducible refine grd_and ?_); refine And.intro (hr) ?_; conv => whnf) | ((with_reducible refine And.intro ?hh ?_); (case hh => exact condA); conv => whnf) | fail))
                all_goals first | (refine ⟨[], ?_, rfl, rfl, trivial, trivs⟩; simp only [renV, renL]; (first | done | rfl | (simp; done) | (simp; omega) | grind)) | (exfalso; omega)
      | false => (conv => whnf); (repeat' (first | ((with_reducible refine ifb_mk (fun hc => ?_) (fun hc => ?_)) <;> ((try simp only [decide_eq_true_eq, decide_eq_false_iff_not, Bool.not_eq_true', Bool.not_eq_false', Int.not_lt, Int.not_le, ne_eq, Decidable.not_not, beq_iff_eq, List.cons.injEq, and_true] at hc); (first | (exfalso; omega) | exact absurd True.intro hc | conv => whnf))) | ((with_reducible refine And.intro True.intro ?_); conv => whnf) | ((with_reducible refine CallX.all ?_); refine CallW.of_ok (k1 _ _ (SlC.own rfl)) ?_; conv => whnf) | ((with_reducible refine CallX.all ?_); refine CallW.of_ok (k2 _) ?_; conv => whnf) | ((with_reducible refine grd_and ?_); refine And.intro (hr) ?_; conv => whnf) | ((with_reducible refine And.intro ?hh ?_); (case hh => exact condA); conv => whnf) | fail))
                 all_goals first | (refine ⟨[], ?_, rfl, rfl, trivial, trivs⟩; simp only [renV, renL]; (first | done | rfl | (simp; done) | (simp; omega) | grind)) | (exfalso; omega)
    · rw [if_neg h2]
      (conv => whnf); (repeat' (first | ((with_reducible refine ifb_mk (fun hc => ?_) (fun hc => ?_)) <;> ((try simp only [decide_eq_true_eq, decide_eq_false_iff_not, Bool.not_eq_true', Bool.not_eq_false', Int.not_lt, Int.not_le, ne_eq, Decidable.not_not, beq_iff_eq, List.cons.injEq, and_true] at hc); (first | (exfalso; omega) | exact absurd True.intro hc | conv => whnf))) | ((with_reducible refine And.intro True.intro ?_); conv => whnf) | ((with_reducible refine CallX.all ?_); refine CallW.of_ok (k1 _ _ (SlC.own rfl)) ?_; conv => whnf) | ((with_reducible refine CallX.all ?_); refine CallW.of_ok (k2 _) ?_; conv => whnf) | ((with_reducible refine grd_and ?_); refine And.intro (hr) ?_; conv => whnf) | ((with_reducible refine And.intro ?hh ?_); (case hh => exact condA); conv => whnf) | fail))
      all_goals first | (refine ⟨[], ?_, rfl, rfl, trivial, trivs⟩; simp only [renV, renL]; (first | done | rfl | (simp; done) | (simp; omega) | grind)) | (exfalso; omega)
  · rw [if_neg h1]
    rw [decide_eq_false h1] at k1
    (conv => whnf); (repeat' (first | ((with_reducible refine ifb_mk (fun hc => ?_) (fun hc => ?_)) <;> ((try simp only [decide_eq_true_eq, decide_eq_false_iff_not, Bool.not_eq_true', Bool.not_eq_false', Int.not_lt, Int.not_le, ne_eq, Decidable.not_not, beq_iff_eq, List.cons.injEq, and_true] at hc); (first | (exfalso; omega) | exact absurd True.intro hc | conv => whnf))) | ((with_reducible refine And.intro True.intro ?_); conv => whnf) | ((with_reducible refine CallX.all ?_); refine CallW.of_ok (k1 _ _ (SlC.own rfl)) ?_; conv => whnf) | ((with_reducible refine CallX.all ?_); refine CallW.of_ok (k2 _) ?_; conv => whnf) | ((with_reducible refine And.intro ?hh ?_); (case hh => exact condA); conv => whnf) | fail))
    all_goals first | (refine ⟨[], ?_, rfl, rfl, trivial, trivs⟩; simp only [renV, renL]; (first | done | rfl | (simp; done) | (simp; omega) | grind)) | (exfalso; omega)
end Go.Proofs.H

namespace Go.Proofs.H
open Go.As
set_option maxRecDepth 20000
set_option linter.unusedVariables false
set_option linter.unusedSimpArgs false

/-! ### A plate is laid on the block -/

def layA (a d : Nat → Int) (k : Nat) : Nat → Int := fun j => if j < k then a j + d j else a j
def layE (W : Nat) (a d : Nat → Int) (E : List En) (c : Nat) : Nat → List En × Nat
  | 0 => (E, c)
  | k + 1 => rzE (layE W a d E c k).1 (layE W a d E c k).2 (pk W k) (a k + d k)
theorem layA_succ (a d : Nat → Int) (k : Nat) : rs (layA a d k) k (d k) = layA a d (k + 1) := by
  funext j
  unfold rs layA
  by_cases h : j = k
  · subst h; rw [if_pos rfl, if_neg (Nat.lt_irrefl _), if_pos (by omega)]
  · rw [if_neg h]
    by_cases h2 : j < k
    · rw [if_pos h2, if_pos (by omega)]
    · rw [if_neg h2, if_neg (by omega)]
theorem layA_0 (a d : Nat → Int) : layA a d 0 = a := by funext j; unfold layA; rw [if_neg (by omega)]
theorem layE_ok {W n : Nat} {a d : Nat → Int} {E : List En} {c : Nat} (m : MapOk W n a E) : ∀ k, k ≤ n → MapOk W n (layA a d k) (layE W a d E c k).1
  | 0, _ => by rw [layA_0]; exact m
  | k + 1, hk => by
    rw [← layA_succ]
    have := (layE_ok (d := d) (c := c) m k (by omega)).raise (i := k) (by omega) (d k) (layE W a d E c k).2
    have e : layA a d k k = a k := by unfold layA; rw [if_neg (Nat.lt_irrefl _)]
    rw [e] at this
    exact this
set_option maxHeartbeats 8000000 in
theorem lay_w (W H : Nat) (hW : 1 ≤ W ∧ W ≤ 6) (hH : 1 ≤ H ∧ H ≤ 6) (D : V) (hD : bare0 D = true) (a u : Nat → Int) (E : List En) (c : Nat) (ex : Bool) (k : Nat) (hk : k = W * H) (d : Nat → Int) (ha : Sml (W * H) 1099511627776 a) (hd : Sml (W * H) 1099511627776 d) :
    CallW Try.prog [] 70 [.ptr 0 0, .rsl ex 1 k (iG d)] (hp [BB W H D a u 1, .map (encM E) c])
      (LowK (.tup []) [BB W H D (layA a d (W * H)) u 1, .map (encM (layE W a d E c (W * H)).1) (layE W a d E c (W * H)).2]) := by
  refine CallW.inline (f := 70) Try.func70 rfl rfl (Nat.le_of_ble_eq_true rfl) (WpR.of_vc ?_)
  subst hk
  have hwh := wh_le hW hH
  obtain ⟨Bs, hBs⟩ : ∃ Bs : Nat → Tr V, ∀ k, Bs k = BC W H D (layA a d k) u 1 := ⟨fun k => _, fun k => rfl⟩
  have hstart : BB W H D a u 1 = .cells (Bs 0) true none := by rw [hBs, layA_0]; rfl
  have hfin : SubQ id (BB W H D (layA a d (W * H)) u 1) (.cells (Bs (W * H)) true none) := by rw [hBs]; exact bb_sub id hD
  have hmap0 : (.map (encM E) c : Blk) = .map (encM (layE W a d E c 0).1) (layE W a d E c 0).2 := rfl
  rw [hstart, hmap0]
  have hlt : ∀ n k, 1 < n → ltB n (.cells (Bs k) true none) := fun n k hn => by rw [hBs]; exact bb_lt hD hn
  have hg0 : ∀ k, (Bs k).get 0 = some (.int .i64 W) := fun k => by rw [hBs]; exact bc_0
  have hg1 : ∀ k, (Bs k).get 1 = some (.int .i64 H) := fun k => by rw [hBs]; exact bc_1
  have kZ := fun (h' : As.H) (hs : h'.get 0 = some (.cells (Bs 0) true none)) => size_ok h' 0 W H hW hH hs (hg0 0) (hg1 0)
  have kA := fun (h' : As.H) i k (hs : h'.get 0 = some (.cells (Bs k) true none)) hi => spotAt_ok h' 0 W H i hW hs (hg0 k) (hg1 k) hi
  have kI := fun k i p2 p3 (h' : As.H) (hs : h'.get 0 = some (.cells (Bs k) true none)) => index_ok h' 0 W H (i % W) (i / W) p2 p3 hW hs (hg0 k) (hg1 k)
  have kR : ∀ k, k < W * H → ∀ h' : As.H, h'.get 0 = some (.cells (Bs k) true none) → h'.get 1 = some (.map (encM (layE W a d E c k).1) (layE W a d E c k).2) →
      CallOk Try.prog 76 [.ptr 0 0, spV (k % W : Nat) (k / W : Nat), .int .i64 (d k)] h' (.tup []) ((h'.put 0 (.cells (Bs (k + 1)) true none)).put 1 (.map (encM (layE W a d E c (k + 1)).1) (layE W a d E c (k + 1)).2)) := fun k hk h' hs he => by
    have q1 := ha k hk
    have q2 := hd k hk
    have e : layA a d k k = a k := by unfold layA; rw [if_neg (Nat.lt_irrefl _)]
    have := raise_ok h' 0 1 W H k hW hH hk D hD (layA a d k) u (layE W a d E c k).1 (layE W a d E c k).2 (d k) (by rw [e]; unfold InR; omega) hs (fun k => by rw [hBs]) he
    rw [layA_succ, e] at this
    rw [hBs]
    exact this
  have hpos := fun i (hi : i < W * H) => pos_lt hW hH hi
  generalize layE W a d E c = L at *
  generalize W * H = n at *
  (conv => whnf); (repeat' (first | ((with_reducible refine ifb_mk (fun hc => ?_) (fun hc => ?_)) <;> ((try simp only [decide_eq_true_eq, decide_eq_false_iff_not, Bool.not_eq_true', Bool.not_eq_false', Int.not_lt, Int.not_le, ne_eq, Decidable.not_not, beq_iff_eq, List.cons.injEq, and_true] at hc); (first | (exfalso; omega) | exact absurd True.intro hc | conv => whnf))) | ((with_reducible refine And.intro True.intro ?_); conv => whnf) | ((with_reducible refine CallX.all (f := 61) ?_); refine CallW.inline Try.func61 rfl rfl (Nat.le_of_ble_eq_true rfl) (WpR.of_vc ?_); conv => whnf) | ((with_reducible refine RangeX.all ?_); conv => whnf) | ((with_reducible refine CallX.all ?_); refine CallW.of_ok (kZ _ rfl) ?_; conv => whnf) | ((with_reducible refine CallW.inline (f := 78) Try.func78 rfl rfl (Nat.le_of_ble_eq_true rfl) (WpR.of_vc ?_)); conv => whnf) | ((with_reducible refine And.intro ?hh ?_); (case hh => exact condA); conv => whnf) | fail))
  have hMap : ∀ k, ltB 7 (.cells (Bs k) true none) := fun k => hlt 7 k (by omega)
  have hMapB : ∀ k, ltB 1000 (.cells (Bs k) true none) := fun k => hlt 1000 k (by omega)
  have hMapC : ∀ n k, ltB n (.map (encM (L k).1) (L k).2) := fun n k => encM_lt
  refine WpR.loopA (ι := Nat) [] [0, 1, 5] [0, 1] [] 7 (fun k => [(6, .int .i64 k)]) (fun k => [(0, .cells (Bs k) true none), (1, .map (encM (L k).1) (L k).2)]) (fun k => n - k) (fun k => k ≤ n) ?_ (0) (Nat.zero_le _) [] Back.auto
  intro k hk
  refine WpR.of_vc ?_
  by_cases hkl : k < n
  · have kAk := fun h' hs => kA h' k k hs (by omega)
    have kRk := kR k hkl
    obtain ⟨p1, p2, p3, _, _⟩ := hpos k hkl
    have kIk := kI k k p2 p3
    rw [idx_eq] at kIk
    (conv => whnf); (repeat' (first | ((with_reducible refine ifb_mk (fun hc => ?_) (fun hc => ?_)) <;> ((try simp only [decide_eq_true_eq, decide_eq_false_iff_not, Bool.not_eq_true', Bool.not_eq_false', Int.not_lt, Int.not_le, ne_eq, Decidable.not_not, beq_iff_eq, List.cons.injEq, and_true] at hc); (first | (exfalso; omega) | exact absurd True.intro hc | conv => whnf))) | ((with_reducible refine And.intro True.intro ?_); conv => whnf) | ((with_reducible refine grd_and ?_); refine And.intro (hkl) ?_; conv => whnf) | ((with_reducible refine CallX.all ?_); refine CallW.of_ok (kAk _ rfl) ?_; conv => whnf) | ((with_reducible refine And.intro ?hh ?_); (case hh => exact condA); conv => whnf) | fail))
    refine YldX.all ?_
    refine YldW.inline rfl rfl rfl (WpR.of_vc ?_)
    conv => whnf
    refine ⟨rfl, _, rfl, rfl, WpR.of_vc ?_⟩
    (conv => whnf); (repeat' (first | ((with_reducible refine ifb_mk (fun hc => ?_) (fun hc => ?_)) <;> ((try simp only [decide_eq_true_eq, decide_eq_false_iff_not, Bool.not_eq_true', Bool.not_eq_false', Int.not_lt, Int.not_le, ne_eq, Decidable.not_not, beq_iff_eq, List.cons.injEq, and_true] at hc); (first | (exfalso; omega) | exact absurd True.intro hc | conv => whnf))) | ((with_reducible refine And.intro True.intro ?_); conv => whnf) | ((with_reducible refine grd_and ?_); refine And.intro (hkl) ?_; conv => whnf) | ((with_reducible refine WpR.drawTail (id := 3) mixed 8 [0, 1, 2, 3, 4, 5, 6, 7] [0, 0, 0, 0, 0, 24, 60, 124] ?hh ?hk ?_); (case hh => kernel_rfl); (case hk => kernel_rfl); conv => whnf) | ((with_reducible refine grd_ex ?_); refine ex_ok (kIk _ rfl) ?_; conv => whnf) | ((with_reducible refine CallX.all ?_); refine CallW.of_ok (kRk _ rfl rfl) ?_; conv => whnf) | ((with_reducible refine And.intro ?hh ?_); (case hh => exact condA); conv => whnf) | fail))
    refine ⟨_, _, rfl, ?_⟩
    (conv => whnf); (repeat' (first | ((with_reducible refine ifb_mk (fun hc => ?_) (fun hc => ?_)) <;> ((try simp only [decide_eq_true_eq, decide_eq_false_iff_not, Bool.not_eq_true', Bool.not_eq_false', Int.not_lt, Int.not_le, ne_eq, Decidable.not_not, beq_iff_eq, List.cons.injEq, and_true] at hc); (first | (exfalso; omega) | exact absurd True.intro hc | conv => whnf))) | ((with_reducible refine And.intro True.intro ?_); conv => whnf) | ((with_reducible refine And.intro ?hh ?_); (case hh => exact condA); conv => whnf) | fail))
    exact ⟨k + 1, [], by omega, by omega, Back.auto⟩
  · have e : k = n := by omega
    subst e
    (conv => whnf); (repeat' (first | ((with_reducible refine ifb_mk (fun hc => ?_) (fun hc => ?_)) <;> ((try simp only [decide_eq_true_eq, decide_eq_false_iff_not, Bool.not_eq_true', Bool.not_eq_false', Int.not_lt, Int.not_le, ne_eq, Decidable.not_not, beq_iff_eq, List.cons.injEq, and_true] at hc); (first | (exfalso; omega) | exact absurd True.intro hc | conv => whnf))) | ((with_reducible refine And.intro True.intro ?_); conv => whnf) | ((with_reducible refine grd_and ?_); refine And.intro (hkl) ?_; conv => whnf) | ((with_reducible refine And.intro ?hh ?_); (case hh => exact condA); conv => whnf) | fail))
    exact ⟨rfl, ⟨_, rfl, hfin⟩, ⟨_, rfl, encM_sub⟩, trivial⟩
theorem lay_ok (h : As.H) (s mb W H : Nat) (hW : 1 ≤ W ∧ W ≤ 6) (hH : 1 ≤ H ∧ H ≤ 6) (D : V) (hD : bare0 D = true) (a u : Nat → Int) (E : List En) (c : Nat) (ex : Bool) (k : Nat) (hk : k = W * H) (d : Nat → Int) (ha : Sml (W * H) 1099511627776 a) (hd : Sml (W * H) 1099511627776 d)
    {cs : Tr V} (hs : h.get s = some (.cells cs true none)) (hcs : ∀ k, cs.get k = (BC W H D a u mb).get k) (he : h.get mb = some (.map (encM E) c)) :
    CallOk Try.prog 70 [.ptr s 0, .rsl ex 1 k (iG d)] h (.tup []) ((h.put s (BB W H D (layA a d (W * H)) u mb)).put mb (.map (encM (layE W a d E c (W * H)).1) (layE W a d E c (W * H)).2)) :=
  blk_call hs hcs he hD (argsC := [.ptr 0 0, .rsl ex 1 k (iG d)]) rfl rfl rfl (lay_w W H hW hH D hD a u E c ex k hk d ha hd)
end Go.Proofs.H

namespace Go.Proofs.H
open Go.As
set_option maxRecDepth 20000
set_option linter.unusedVariables false
set_option linter.unusedSimpArgs false

def z0 : Nat → Int := fun _ => 0
theorem bc_setD {W H : Int} {D D' : V} {a u : Nat → Int} {mb : Nat} (k : Nat) : ((BC W H D a u mb).set 2 D').get k = (BC W H D' a u mb).get k := by
  rw [Tr.get_set]
  by_cases he : k = 2
  · subst he; rw [if_pos rfl, bc_2]
  · rw [if_neg he]
    by_cases hk : k < 76
    · rw [bc_at hk, bc_at hk]
      unfold cellF
      by_cases h1 : k < 3
      · rw [if_pos h1, if_pos h1]
        by_cases h2 : k = 0
        · rw [if_pos h2, if_pos h2]
        · rw [if_neg h2, if_neg h2, if_pos (by omega), if_pos (by omega)]
      · rw [if_neg h1, if_neg h1]
    · cases h1 : (BC W H D a u mb).get k with
      | some v => exact absurd (bc_some h1).1 hk
      | none =>
        cases h2 : (BC W H D' a u mb).get k with
        | some v => exact absurd (bc_some h2).1 hk
        | none => rfl
theorem bb_sh {vs : Vw} {n0 N k i : Nat} {W H : Int} {D : V} {a u : Nat → Int} {m m' : Nat} (hD : bare0 D = true) (hi : i < k) (hm : m = n0 + i) (hm' : m' = N + i) : ShB vs n0 N k (BB W H D a u m) (BB W H D a u m') := by
  refine .cells fun j v' hv => ?_
  obtain ⟨hj, rfl⟩ := bc_some hv
  refine ⟨cellF_one hD j, _, bc_at hj, ?_⟩
  unfold cellF
  (repeat' split) <;> first | exact .bare rfl | exact .bare (ltV_bare0 hD) | exact .map hi hm hm'
theorem encM_sh {vs : Vw} {n0 N k c : Nat} {E : List En} : ShB vs n0 N k (.map (encM E) c) (.map (encM E) c) := .map fun e he => by obtain ⟨q, _, rfl⟩ := List.mem_map.1 he; rfl
set_option maxHeartbeats 8000000 in
theorem blockFor_new (h : As.H) (W H : Nat) (hW : 1 ≤ W ∧ W ≤ 6) (hH : 1 ≤ H ∧ H ≤ 6) (ex : Bool) (k : Nat) (d : Nat → Int) (hk : k = W * H) (hd : ∀ i, i < k → 0 ≤ d i ∧ d i ≤ 30) :
    CallOk Try.prog 52 [plV W H ex k d] h (.tup [.ptr (h.n + 0) 0, .int .i64 0]) (addBs h [BB W H (.rsl ex 1 k (iG d)) (layA z0 d (W * H)) z0 (h.n + 1), .map (encM (layE W z0 d [] 0 (W * H)).1) (layE W z0 d [] 0 (W * H)).2]) := by
  have hwh := wh_le hW hH
  have k1 := fun h' => checkPlate_ok h' W H ex k d (by omega)
  rw [ckP_v ⟨by omega, by omega⟩ hk hd] at k1
  have kL := fun (h' : As.H) (cs : Tr V) (hs : h'.get 2 = some (.cells cs true none)) (hcs : ∀ j, cs.get j = (BC W H (.rsl ex 1 k (iG d)) z0 z0 1).get j) (he : h'.get 1 = some (.map (encM []) 0)) =>
    lay_ok h' 2 1 W H hW hH (.rsl ex 1 k (iG d)) rfl z0 z0 [] 0 ex k hk d (fun j _ => by unfold z0; omega) (fun j hj => by have := hd j (by omega); omega) hs hcs he
  generalize hX : layE W z0 d [] 0 (W * H) = X at *
  generalize layA z0 d (W * H) = A at *
  have hlt : ltB 2 (BB W H (.rsl ex 1 k (iG d)) A z0 1) := bb_lt rfl (by omega)
  have hsub : ∀ ρ : Nat → Nat, ρ 1 = 1 → SubQ ρ (BB W H (.rsl ex 1 k (iG d)) A z0 1) (BB W H (.rsl ex 1 k (iG d)) A z0 1) := fun ρ hρ => bb_eq rfl hρ (fun _ _ => rfl) (fun _ _ => rfl)
  refine CallOk.runN Try.func52 rfl rfl (argsC := [plV W H ex k d]) (fun N => .tup [.ptr (N + 0) 0, .int .i64 0]) (fun N => [BB W H (.rsl ex 1 k (iG d)) A z0 (N + 1), .map (encM X.1) X.2]) (Nat.le_of_ble_eq_true rfl) [] (.cons (.lt0 rfl) .nil) (viewM0 h) (ShV.tup (.cons (.ptr (i := 0) (Nat.le_of_ble_eq_true rfl) rfl rfl) (.cons (.bare rfl) .nil))) rfl (fun i b hi => ?_) (WpR.of_vc ?_)
  · match i, hi with
    | 0, hi => cases hi; exact ⟨_, rfl, rfl, bb_sh (i := 1) rfl (Nat.le_of_ble_eq_true rfl) rfl rfl⟩
    | 1, hi => cases hi; exact ⟨_, rfl, rfl, encM_sh⟩
    | i + 2, hi => simp at hi
  · have hz := fun j => bc_setD (W := (W : Int)) (H := (H : Int)) (D := .nils) (D' := .rsl ex 1 k (iG d)) (a := z0) (u := z0) (mb := 1) j
    (conv => whnf); (repeat' (first | ((with_reducible refine ifb_mk (fun hc => ?_) (fun hc => ?_)) <;> ((try simp only [decide_eq_true_eq, decide_eq_false_iff_not, Bool.not_eq_true', Bool.not_eq_false', Int.not_lt, Int.not_le, ne_eq, Decidable.not_not, beq_iff_eq, List.cons.injEq, and_true] at hc); (first | (exfalso; omega) | exact absurd True.intro hc | conv => whnf))) | ((with_reducible refine And.intro True.intro ?_); conv => whnf) | ((with_reducible refine CallX.all ?_); refine CallW.of_ok (k1 _) ?_; conv => whnf) | ((with_reducible refine CallX.all (f := 72) ?_); refine CallW.inline Try.func72 rfl rfl (Nat.le_of_ble_eq_true rfl) (WpR.of_vc ?_); conv => whnf) | ((with_reducible refine CallX.all ?_); refine CallW.of_ok (kL _ _ rfl (fun j => hz j) rfl) ?_; conv => whnf) | ((with_reducible refine And.intro ?hh ?_); (case hh => exact condA); conv => whnf) | fail))
    exact ⟨[2, 1], rfl, rfl, rfl, ⟨⟨_, rfl, rfl, hsub _ rfl⟩, hlt, rfl, ⟨_, rfl, rfl, encM_sub⟩, encM_lt, rfl, trivial⟩, trivs⟩
end Go.Proofs.H

namespace Go.Proofs.H
open Go.As
set_option maxRecDepth 20000
set_option linter.unusedVariables false
set_option linter.unusedSimpArgs false

/-! ### Numbers as a list -/

def aV (a : Nat → Int) : List V := arrV 36 fun k => .int .i64 (a k)
theorem putN_all : ∀ (l : List V) (c : Tr V) (o : Nat), (∀ k, k < l.length → ∃ v, c.get (o + k) = some v) → ∃ c2, putN l c o = some c2 ∧ ∀ k, c2.get k = if o ≤ k ∧ k < o + l.length then l[k - o]? else c.get k := by
  intro l
  induction l with
  | nil => intro c o _; exact ⟨c, rfl, fun k => by rw [if_neg (by simp only [List.length_nil]; omega)]⟩
  | cons u l ih =>
    intro c o h
    obtain ⟨v, hv⟩ := h 0 (by simp)
    rw [Nat.add_zero] at hv
    obtain ⟨c2, h1, h2⟩ := ih (c.set o u) (o + 1) (fun k hk => by
      obtain ⟨w, hw⟩ := h (k + 1) (by simp; omega)
      refine ⟨w, ?_⟩
      rw [Tr.get_set, if_neg (by omega), show o + 1 + k = o + (k + 1) from by omega]; exact hw)
    refine ⟨c2, by rw [putN_cons, hv]; exact h1, fun k => ?_⟩
    rw [h2]
    by_cases he : k = o
    · subst he
      rw [if_neg (by omega), Tr.get_set, if_pos rfl, if_pos (by simp only [List.length_cons]; omega), Nat.sub_self]; rfl
    · by_cases hk : o ≤ k ∧ k < o + (u :: l).length
      · rw [if_pos hk, if_pos (by simp only [List.length_cons] at hk; omega), show k - o = (k - (o + 1)) + 1 from by omega, List.getElem?_cons_succ]
      · rw [if_neg hk, if_neg (by simp only [List.length_cons] at hk; omega), Tr.get_set, if_neg he]
theorem putN_arr {N : Nat} {f g : Nat → V} : ∃ c2, putN (arrV N f) (ofL (arrV N g) 0) 0 = some c2 ∧ ∀ k, c2.get k = (ofL (arrV N f) 0).get k := by
  obtain ⟨c2, h1, h2⟩ := putN_all (arrV N f) (ofL (arrV N g) 0) 0 (fun k hk => ⟨_, by rw [Nat.zero_add]; exact arrV_get rfl (by rwa [arrV_len] at hk)⟩)
  refine ⟨c2, h1, fun k => ?_⟩
  rw [h2, get_ofL, if_pos (Nat.zero_le _), arrV_len, get_ofL, if_pos (Nat.zero_le _), Nat.sub_zero]
  split
  · rfl
  · rename_i hk
    rw [List.getElem?_eq_none (by rw [arrV_len]; omega), List.getElem?_eq_none (by rw [arrV_len]; omega)]
theorem getN_all : ∀ (l : List V) (c : Tr V) (o : Nat), (∀ k v, l[k]? = some v → c.get (o + k) = some v) → getN c l.length o = some l
  | [], c, o, _ => rfl
  | v :: l, c, o, h => by
    have h0 := h 0 v rfl
    rw [Nat.add_zero] at h0
    have ih := getN_all l c (o + 1) (fun k w hw => by have := h (k + 1) w hw; rwa [show o + (k + 1) = o + 1 + k from by omega] at this)
    show (match c.get o with
      | some v => (match getN c l.length (o + 1) with | some l => some (v :: l) | none => none)
      | none => none) = _
    rw [h0, ih]
theorem getN_arr {n : Nat} {f : Nat → V} {c : Tr V} {o : Nat} (h : ∀ k, k < n → c.get (o + k) = some (f k)) : getN c n o = some (arrV n f) := by
  have := getN_all (arrV n f) c o (fun k v hk => by
    have hlt : k < n := by have := (List.getElem?_eq_some_iff.1 hk).1; rwa [arrV_len] at this
    rw [arrV_at hlt] at hk
    rw [h k hlt]; exact hk)
  rwa [arrV_len] at this
theorem arrV_one {n : Nat} {f : Nat → V} (h : ∀ k, one (f k) = true) : (arrV n f).all one = true := List.all_eq_true.2 fun v hv => by obtain ⟨x, _, rfl⟩ := List.mem_map.1 hv; exact h x
set_option maxHeartbeats 4000000 in
theorem list_new (h : As.H) (s W H : Nat) (hW : 1 ≤ W ∧ W ≤ 6) (hH : 1 ≤ H ∧ H ≤ 6) (a : Nat → Int) {c : Tr V} {w : Bool} {g : Option (Nat × Nat)} (hs : h.get s = some (.cells c w g)) (h0 : c.get 0 = some (.int .i64 W)) (h1 : c.get 1 = some (.int .i64 H)) :
    CallOk Try.prog 58 [.ptr s 0, .agg (aV a)] h (.sl (h.n + 0) 0 (W * H) (W * H) true) (addBs h [.cells (ofL (arrV (W * H) fun k => .int .i64 (a k)) 0) true none]) := by
  have hwh := wh_le hW hH
  have kZ := fun (h' : As.H) {c : Tr V} (hs : h'.get 0 = some (.cells c false none)) h0 h1 => size_ok h' 0 W H hW hH hs h0 h1
  refine CallOk.runN Try.func58 rfl rfl (argsC := [.ptr 0 0, .agg (aV a)]) (fun N => .sl (N + 0) 0 (W * H) (W * H) true) (fun _ => [.cells (ofL (arrV (W * H) fun k => .int .i64 (a k)) 0) true none]) (Nat.le_of_ble_eq_true rfl) [some (s, 0)] (.cons (.ptr (i := 0) rfl) (.cons (.lt0 ?hl) .nil)) (blk_view hs h0 h1) (.sl (i := 0) (Nat.le_of_ble_eq_true rfl) rfl rfl) ?hv (fun i b hi => ?_) (WpR.of_vc ?_)
  case hl => rfl
  case hv => rfl
  · match i, hi with
    | 0, hi => cases hi; exact ⟨_, rfl, rfl, .bare (ofL_bare (arrV_bare fun _ => rfl))⟩
    | i + 1, hi => simp at hi
  · generalize W * H = n at *

    obtain ⟨c2, q1, q2⟩ := putN_arr (N := n) (f := fun k => V.int .i64 (a k)) (g := fun _ => V.int .i64 0)
    have q3 : getN (ofL (aV a) 0) (min 36 n * 1) 0 = some (arrV n fun k => .int .i64 (a k)) := by
      rw [Nat.mul_one, Nat.min_eq_right hwh.2]
      exact getN_arr fun k hk => by rw [Nat.zero_add]; exact arrV_get rfl (by omega)
    have q4 : (arrV n fun k => V.int .i64 (a k)).all one = true := arrV_one fun _ => rfl
    rw [← arrV_rep] at q1
    have hend : ∀ ρ, SubQ ρ (.cells (ofL (arrV n fun k => .int .i64 (a k)) 0) true none) (.cells c2 true none) := fun ρ => SubQ.bare (fun k v hk => ⟨by rw [q2]; exact hk, arrV_bare (fun _ => rfl) v (by rw [get_ofL, if_pos (Nat.zero_le _)] at hk; exact List.mem_of_getElem? hk)⟩) id (.inr rfl)
    have hlt : ltB 2 (.cells (ofL (arrV n fun k => .int .i64 (a k)) 0) true none) := ltB_ofLb (arrV_bare fun _ => rfl)
    (conv => whnf); (repeat' (first | ((with_reducible refine ifb_mk (fun hc => ?_) (fun hc => ?_)) <;> ((try simp only [decide_eq_true_eq, decide_eq_false_iff_not, Bool.not_eq_true', Bool.not_eq_false', Int.not_lt, Int.not_le, ne_eq, Decidable.not_not, beq_iff_eq, List.cons.injEq, and_true] at hc); (first | (exfalso; omega) | exact absurd True.intro hc | conv => whnf))) | ((with_reducible refine And.intro True.intro ?_); conv => whnf) | ((with_reducible refine CallX.all ?_); refine CallW.of_ok (kZ _ rfl rfl rfl) ?_; conv => whnf) | ((with_reducible refine grd_getN ?_); refine som_mk (a := ?_) ?hh ?_; (case hh => exact q3); conv => whnf) | ((with_reducible refine grd_putN ?_); refine som_mk (a := ?_) ?hh ?_; (case hh => exact q1); conv => whnf) | ((with_reducible refine grd_and ?_); refine And.intro (q4) ?_; conv => whnf) | ((with_reducible refine And.intro ?hh ?_); (case hh => exact condA); conv => whnf) | fail))
    exact ⟨[2], rfl, rfl, rfl, ⟨⟨_, rfl, rfl, hend _⟩, hlt, rfl, trivial⟩, trivs⟩
theorem list_ok (h : As.H) (s W H : Nat) (hW : 1 ≤ W ∧ W ≤ 6) (hH : 1 ≤ H ∧ H ≤ 6) (a : Nat → Int) {c : Tr V} {w : Bool} {g : Option (Nat × Nat)} (hs : h.get s = some (.cells c w g)) (h0 : c.get 0 = some (.int .i64 W)) (h1 : c.get 1 = some (.int .i64 H)) :
    CallOk Try.prog 58 [.ptr s 0, .agg (aV a)] h (.rsl true 1 (W * H) (iG a)) h :=
  CallOk.freeze (list_new h s W H hW hH a hs h0 h1) (arrFz (fun _ => rfl) rfl fun _ _ => rfl) (fun b hb => by rw [List.mem_singleton.1 hb]; rfl)
end Go.Proofs.H

