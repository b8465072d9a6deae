/- What the functions answer that the laws call, one after another (Knd). -/
import Derived.Test.YtgcnflpgolnjeaaAs6
import Derived.Test.YtgcnflpgolnjeaaMst
import Derived.Test.YtgcnflpgolnjeaaBso
import Derived.Test.YtgcnflpgolnjeaaPth
set_option linter.unusedVariables false
set_option linter.unusedSimpArgs false
namespace Go.Proofs.K
open Go.As
set_option maxRecDepth 20000
theorem bestO_x (h : As.H) (x : Nat) (sv : V) (hsl : SlC h (iVs [(x : Int)]) 1 sv) (D : Nat) (hD : D ≤ 3) (ex : Bool) (n : Nat) (a b : Nat → Int) (hv : ckL D n a b = 0) (hx : x < n) {c : C4} {q : List C4} (hF : mpS D n a b (2 ^ n) = c :: q) (u y z : Nat) (e1 : u = h.n + 0) (e2 : y = h.n + 1) (e3 : z = h.n + 2) :
    CallOk Try.prog 70 [lgV D ex n a b, sv] h (.tup [.ptr u 0, .int .i64 0]) (addBs h [bsB y z (mxC (cnC n a b) (prQ (c :: q))), shB D (.rsl ex 2 n (lkG a b)) (mkG D n a b (2 ^ n)), .map (enL (cnC n a b) (bstL (cnC n a b) (prQ (c :: q)))) (c :: q).length]) := by
  subst e1; subst e2; subst e3
  have := bestO_new h x sv hsl D hD ex n a b hv (ckL_lg hv).2 hx
  rw [hF] at this
  exact this
def kdF (w m : Nat) : Int := if w = 0 then 0 else if w = m then 2 else 1
set_option maxHeartbeats 16000000 in
theorem kindP_ok (h : As.H) (D : Nat) (hD : D ≤ 3) (ex : Bool) (n : Nat) (a b : Nat → Int) (hv : ckL D n a b = 0) (x : Nat) (hx : x < n) {c : C4} {q : List C4} (hF : mpS D n a b (2 ^ n) = c :: q) :
    CallOk Try.prog 33 [lgV D ex n a b, .int .i64 x] h (.tup [.int .i64 (kdF (wrN a b x (bstL (cnC n a b) (prQ (c :: q)))) (bstL (cnC n a b) (prQ (c :: q))).length), .int .i64 0]) h := by
  have l := (ckL_lg hv).2
  have hn := l.le
  have kB := fun (h' : As.H) sv hsl => bestO_x h' x sv hsl D hD ex n a b hv hx hF
  have hqn : (c :: q).Nodup := by rw [← hF]; exact mpS_nodup _ _ _ _ _
  have hql : (c :: q).length ≤ 4096 := by
    have := mpS_len D n a b (2 ^ n)
    rw [hF] at this
    exact Nat.le_trans this (Nat.pow_le_pow_right (n := 2) (by omega) hn)
  have hsub : ∀ e ∈ bstL (cnC n a b) (prQ (c :: q)), e ∈ prQ (c :: q) := fun e he => (List.mem_filter.1 he).1
  have hlt : ∀ e ∈ bstL (cnC n a b) (prQ (c :: q)), e.2 < (c :: q).length := fun e he => prQ_lt e (hsub e he)
  have hin : ∀ z ∈ bstL (cnC n a b) (prQ (c :: q)), ∀ y ∈ bstL (cnC n a b) (prQ (c :: q)), y.2 = z.2 → y = z := fun z hz y hy => prQ_inj z (hsub z hz) y (hsub y hy)
  have hnd : (bstL (cnC n a b) (prQ (c :: q))).Nodup := List.Nodup.sublist List.filter_sublist (prQ_nodup _ hqn)
  have hln : (bstL (cnC n a b) (prQ (c :: q))).length ≤ (c :: q).length := by rw [← prQ_len]; exact List.length_filter_le _ _
  have hsm : ∀ e ∈ bstL (cnC n a b) (prQ (c :: q)), Sm 8796093022208 4 (f4 e.1) := fun e he => by
    have hm : e.1 ∈ mpS D n a b (2 ^ n) := by rw [hF]; exact prQ_sub (hsub e he)
    obtain ⟨g, _, h2, _, h4⟩ := mpS_mem _ hm
    intro k hk
    have := csP_sm (slF_dy (p := g.testBit) (by omega) l.rg l.up) (slF_pl l.at') k hk
    rw [h4, f4_at hk]
    unfold crG; omega
  generalize mkG D n a b (2 ^ n) = mk0 at *
  generalize mxC (cnC n a b) (prQ (c :: q)) = M at *
  generalize bstL (cnC n a b) (prQ (c :: q)) = L at *
  have hel : (enL (cnC n a b) L).length = L.length := by unfold enL; rw [List.length_map]
  generalize hcn : cnC n a b = cn at *
  generalize (c :: q).length = len at *
  have hm0 := wrM_nil (a := a) (b := b) (x := x) (L := L)
  have hmN := msr_nil L
  refine CallOk.run0 Try.func33 rfl rfl rfl rfl rfl (WpR.of_vc ?_)
  (conv => whnf); (repeat' (first | ((with_reducible refine ifb_mk (fun hc => ?_) (fun hc => ?_)) <;> ((try simp only [decide_eq_true_eq, decide_eq_false_iff_not, Bool.not_eq_true', Bool.not_eq_false', Int.not_lt, Int.not_le, ne_eq, Decidable.not_not, beq_iff_eq, List.cons.injEq, and_true] at hc); (first | (exfalso; omega) | exact absurd True.intro hc | conv => whnf))) | ((with_reducible refine And.intro True.intro ?_); conv => whnf) | ((with_reducible refine CallX.all ?_); refine CallW.of_ok (kB _ _ (SlC.own rfl) 2 3 4 (by rfl) (by rfl) (by rfl)) ?_; conv => whnf) | ((with_reducible refine CallX.all (f := 72) ?_); refine CallW.inline Try.func72 rfl rfl (Nat.le_of_ble_eq_true rfl) (WpR.of_vc ?_); conv => whnf) | ((with_reducible refine And.intro ?hh ?_); (case hh => exact condA); conv => whnf) | fail))
  have hMap : ∀ k mk, ltB k (shB D (.rsl ex 2 n (lkG a b)) mk) := fun k mk => ltB_ofLb (shL_bare rfl)
  have hMapB : ∀ k, ltB k (.map (enL cn L) len) := fun k => enL_lt
  have hMapC : ∀ k (seen : List Nat), ltB (k + 5) (.iter 4 len seen len) := fun k seen => by show 4 < k + 5; omega
  have sB : ∀ (ρ : Nat → Nat) mk, SubQ ρ (shB D (.rsl ex 2 n (lkG a b)) mk) (shB D (.rsl ex 2 n (lkG a b)) mk) := fun ρ mk => SubQ.ofL rfl (shL_bare rfl) (.inl rfl)
  refine WpR.loopA (ι := List Nat × Int × (Nat → Bool)) [] [0, 1] [3, 5] [] 6 (fun p => [(11, .ptr 5 0), (5, .int .i64 p.2.1)]) (fun p => [(3, shB D (.rsl ex 2 n (lkG a b)) p.2.2), (5, .iter 4 len p.1 len)]) (fun p => msr L p.1) (fun p => p.2.1 = (wrM a b x L p.1 : Nat)) ?_ (([], 0, mk0)) (by show (0 : Int) = (wrM a b x L [] : Nat); rw [hm0]; rfl) [] ⟨rfl, rfl, (by (repeat' (first | exact True.intro | rfl | exact gr_ren rfl | exact aV_ren rfl | exact aW_ren rfl rfl | refine And.intro ?_ ?_))), (by (repeat' (first | exact True.intro | rfl | exact gr_ren rfl | exact aV_ren rfl | exact aW_ren rfl rfl | refine And.intro ?_ ?_))), (by (repeat' (first | exact True.intro | rfl | exact gr_ren rfl | exact aV_ren rfl | exact aW_ren rfl rfl | refine And.intro ?_ ?_))), ⟨.inr ⟨_, rfl, sB _ _⟩, .inr ⟨_, rfl, .iter⟩, trivial⟩, rfl, rfl⟩
  rintro ⟨seen, w, mk⟩ j1
  dsimp only at j1
  refine WpR.of_vc ?_
  have hsz : ∀ e ∈ enL cn L, e.2.2 < len := fun e he => by
    obtain ⟨x, hx, rfl⟩ := List.mem_map.1 he
    exact hlt x hx
  have hwle := wrM_le (a := a) (b := b) (x := x) (L := L) (seen := seen)
  conv => whnf
  refine ⟨hsz, Nat.le_refl _, fun hl => ?_, fun e he => ?_⟩
  · have hend := wrM_end (a := a) (b := b) (x := x) (left_nil hl)
    rw [hend] at j1 hwle
    generalize wrN a b x L = wn at *
    unfold kdF
    by_cases h0 : wn = 0
    · rw [if_pos h0]
      (conv => whnf); (repeat' (first | ((with_reducible refine ifb_mk (fun hc => ?_) (fun hc => ?_)) <;> ((try simp only [decide_eq_true_eq, decide_eq_false_iff_not, Bool.not_eq_true', Bool.not_eq_false', Int.not_lt, Int.not_le, ne_eq, Decidable.not_not, beq_iff_eq, List.cons.injEq, and_true] at hc); (first | (exfalso; omega) | exact absurd True.intro hc | conv => whnf))) | ((with_reducible refine And.intro True.intro ?_); conv => whnf) | ((with_reducible refine And.intro ?hh ?_); (case hh => exact condA); conv => whnf) | fail))
      all_goals first | (exfalso; omega) | (refine ⟨[], ?_, rfl, rfl, trivial, trivs⟩; simp only [renV, renL]; (first | done | rfl | (simp; done) | (simp; omega) | grind))
    · rw [if_neg h0]
      by_cases h1 : wn = L.length
      · rw [if_pos h1]
        (conv => whnf); (repeat' (first | ((with_reducible refine ifb_mk (fun hc => ?_) (fun hc => ?_)) <;> ((try simp only [decide_eq_true_eq, decide_eq_false_iff_not, Bool.not_eq_true', Bool.not_eq_false', Int.not_lt, Int.not_le, ne_eq, Decidable.not_not, beq_iff_eq, List.cons.injEq, and_true] at hc); (first | (exfalso; omega) | exact absurd True.intro hc | conv => whnf))) | ((with_reducible refine And.intro True.intro ?_); conv => whnf) | ((with_reducible refine And.intro ?hh ?_); (case hh => exact condA); conv => whnf) | fail))
        all_goals first | (exfalso; omega) | (refine ⟨[], ?_, rfl, rfl, trivial, trivs⟩; simp only [renV, renL]; (first | done | rfl | (simp; done) | (simp; omega) | grind))
      · rw [if_neg h1]
        (conv => whnf); (repeat' (first | ((with_reducible refine ifb_mk (fun hc => ?_) (fun hc => ?_)) <;> ((try simp only [decide_eq_true_eq, decide_eq_false_iff_not, Bool.not_eq_true', Bool.not_eq_false', Int.not_lt, Int.not_le, ne_eq, Decidable.not_not, beq_iff_eq, List.cons.injEq, and_true] at hc); (first | (exfalso; omega) | exact absurd True.intro hc | conv => whnf))) | ((with_reducible refine And.intro True.intro ?_); conv => whnf) | ((with_reducible refine And.intro ?hh ?_); (case hh => exact condA); conv => whnf) | fail))
        all_goals first | (exfalso; omega) | (refine ⟨[], ?_, rfl, rfl, trivial, trivs⟩; simp only [renV, renL]; (first | done | rfl | (simp; done) | (simp; omega) | grind))
  · obtain ⟨e, hq, rfl, hns⟩ := left_mem he
    have hst := find_stamp (cn := cn) hq (fun y hy => hin e hq y hy)
    have hmm := msr_lt (L := L) (seen := seen) (q := e) hq hns
    have hov : ofVal (key4 e.1) = some (.agg [.int .i64 e.1.1, .int .i64 e.1.2.1, .int .i64 e.1.2.2.1, .int .i64 e.1.2.2.2]) := rfl
    have kDr := fun (h' : As.H) mk hs => draw_ok h' 3 D ex n hn a b l.rg (f4 e.1) (hsm e hq) mk hs
    have hgm := fun o (ho : o = 2 + x) => sh_mk (D := D) (lv := .rsl ex 2 n (lkG a b)) (mk := mkP (psF (f4 e.1) a b) n) ho (by omega)
    have hmx : mkP (psF (f4 e.1) a b) n x = psF (f4 e.1) a b x := by unfold mkP; rw [decide_eq_true hx, Bool.true_and]
    rw [hmx] at hgm
    cases hp : psF (f4 e.1) a b x with
    | true =>
      rw [hp] at hgm
      have hw1 := wrM_right (seen := seen) hin hq hp
      (conv => whnf); (repeat' (first | ((with_reducible refine ifb_mk (fun hc => ?_) (fun hc => ?_)) <;> ((try simp only [decide_eq_true_eq, decide_eq_false_iff_not, Bool.not_eq_true', Bool.not_eq_false', Int.not_lt, Int.not_le, ne_eq, Decidable.not_not, beq_iff_eq, List.cons.injEq, and_true] at hc); (first | (exfalso; omega) | exact absurd True.intro hc | conv => whnf))) | ((with_reducible refine And.intro True.intro ?_); conv => whnf) | (refine som_mk (last_snoc _ _) ?_; conv => whnf) | ((with_reducible refine grd_and ?_); refine And.intro (rfl) ?_; conv => whnf) | (refine som_mk (hst) ?_; conv => whnf) | (refine som_mk (hov) ?_; conv => whnf) | ((with_reducible refine CallX.all ?_); refine CallW.of_ok (kDr _ _ rfl) ?_; conv => whnf) | ((with_reducible refine grd_ex ?_); refine ex_ok (kDr _ _ rfl) ?_; conv => whnf) | ((with_reducible refine WpR.draw (id := 5) mixed [0, 1, 2, 3, 4, 5] [0, 1, 3, 7, 0, 31] ?hh ?_); (case hh => kernel_rfl); conv => whnf) | ((with_reducible refine grd_get ?_); refine som_mk (a := ?_) ?hh ?_; (case hh => exact hgm _ (by show 2 + Int.toNat (x : Int) * 1 = 2 + x; omega)); conv => whnf) | ((with_reducible refine And.intro ?hh ?_); (case hh => exact condA); conv => whnf) | fail))
      all_goals first | (exfalso; omega) | exact ⟨(seen ++ [e.2], w, mkP (psF (f4 e.1) a b) n), [], hmm, (by dsimp only; rw [hw1]; exact j1), ⟨rfl, rfl, (by (repeat' (first | exact True.intro | rfl | exact gr_ren rfl | exact aV_ren rfl | exact aW_ren rfl rfl | refine And.intro ?_ ?_))), (by (repeat' (first | exact True.intro | rfl | exact gr_ren rfl | exact aV_ren rfl | exact aW_ren rfl rfl | refine And.intro ?_ ?_))), (by (repeat' (first | exact True.intro | rfl | exact gr_ren rfl | exact aV_ren rfl | exact aW_ren rfl rfl | refine And.intro ?_ ?_))), ⟨.inr ⟨_, rfl, sB _ _⟩, .inr ⟨_, rfl, .iter⟩, trivial⟩, rfl, rfl⟩⟩
    | false =>
      rw [hp] at hgm
      have hw1 := wrM_wrong (seen := seen) hnd hin hq hns hp
      (conv => whnf); (repeat' (first | ((with_reducible refine ifb_mk (fun hc => ?_) (fun hc => ?_)) <;> ((try simp only [decide_eq_true_eq, decide_eq_false_iff_not, Bool.not_eq_true', Bool.not_eq_false', Int.not_lt, Int.not_le, ne_eq, Decidable.not_not, beq_iff_eq, List.cons.injEq, and_true] at hc); (first | (exfalso; omega) | exact absurd True.intro hc | conv => whnf))) | ((with_reducible refine And.intro True.intro ?_); conv => whnf) | (refine som_mk (last_snoc _ _) ?_; conv => whnf) | ((with_reducible refine grd_and ?_); refine And.intro (rfl) ?_; conv => whnf) | (refine som_mk (hst) ?_; conv => whnf) | (refine som_mk (hov) ?_; conv => whnf) | ((with_reducible refine CallX.all ?_); refine CallW.of_ok (kDr _ _ rfl) ?_; conv => whnf) | ((with_reducible refine grd_ex ?_); refine ex_ok (kDr _ _ rfl) ?_; conv => whnf) | ((with_reducible refine WpR.draw (id := 5) mixed [0, 1, 2, 3, 4, 5] [0, 1, 3, 7, 0, 31] ?hh ?_); (case hh => kernel_rfl); conv => whnf) | ((with_reducible refine grd_get ?_); refine som_mk (a := ?_) ?hh ?_; (case hh => exact hgm _ (by show 2 + Int.toNat (x : Int) * 1 = 2 + x; omega)); conv => whnf) | ((with_reducible refine And.intro ?hh ?_); (case hh => exact condA); conv => whnf) | fail))
      all_goals first | (exfalso; omega) | exact ⟨(seen ++ [e.2], w + 1, mkP (psF (f4 e.1) a b) n), [], hmm, (by dsimp only; rw [hw1]; omega), ⟨rfl, rfl, (by (repeat' (first | exact True.intro | rfl | exact gr_ren rfl | exact aV_ren rfl | exact aW_ren rfl rfl | refine And.intro ?_ ?_))), (by (repeat' (first | exact True.intro | rfl | exact gr_ren rfl | exact aV_ren rfl | exact aW_ren rfl rfl | refine And.intro ?_ ?_))), (by (repeat' (first | exact True.intro | rfl | exact gr_ren rfl | exact aV_ren rfl | exact aW_ren rfl rfl | refine And.intro ?_ ?_))), ⟨.inr ⟨_, rfl, sB _ _⟩, .inr ⟨_, rfl, .iter⟩, trivial⟩, rfl, rfl⟩⟩
end Go.Proofs.K
