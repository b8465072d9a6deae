/- What the functions answer that the laws call, one after another (Bst). -/
import Derived.Test.YtgcnflpgolnjeaaAs6
import Derived.Test.YtgcnflpgolnjeaaB10
set_option linter.unusedVariables false
set_option linter.unusedSimpArgs false
namespace Go.Proofs.K
open Go.As
set_option maxRecDepth 20000
theorem same_key (c : C4) : Instr.sameBits 10000 (key4 c) (key4 c) = true := by
  simp [Instr.sameBits, key4, intsV, l4]
theorem enL_snoc {cn : C4 → Nat} (c : C4) (q : List C4) : enL cn (prQ (c :: q)) = enL cn (prQ q) ++ [(key4 c, .int .i64 ((cn c : Nat) : Int), q.length)] := by
  unfold enL
  show List.map _ (prQ q ++ [(c, q.length)]) = _
  rw [List.map_append]; rfl
theorem bv_sh {vs : Vw} {n k m : Nat} (q : List C4) (hm : m = (match q with | [] => 0 | _ :: _ => 3)) : ShV vs n k m (bvV n q) (bvV k q) := by
  cases q with
  | nil => exact ShV.tup (.cons (.bare rfl) (.cons (.bare rfl) .nil))
  | cons c q => subst hm; exact ShV.tup (.cons (.ptr (i := 0) (Nat.le_of_ble_eq_true rfl) rfl rfl) (.cons (.bare rfl) .nil))
theorem bv_bs {vs : Vw} {D : Int} {lv : V} (hl : bare0 lv = true) {mk : Nat → Bool} {cn : C4 → Nat} {n k : Nat} (q : List C4) (i : Nat) (b : Blk) (hi : (bvN D lv mk cn n q)[i]? = some b) : ∃ b', (bvN D lv mk cn k q)[i]? = some b' ∧ b'.wr = true ∧ ShB vs n k (bvN D lv mk cn n q).length b b' := by
  cases q with
  | nil => simp [bvN] at hi
  | cons c q =>
    match i, hi with
    | 0, hi =>
      cases hi
      refine ⟨_, rfl, rfl, .cells fun j v' hv => ?_⟩
      rw [get_ofL, if_pos (Nat.zero_le _), Nat.sub_zero] at hv
      match j with
      | 0 => simp at hv; subst hv; exact ⟨rfl, .ptr (n + 1) 0, rfl, .ptr (i := 1) (Nat.le_of_ble_eq_true rfl) rfl rfl⟩
      | 1 => simp at hv; subst hv; exact ⟨rfl, .map (n + 2), rfl, .map (i := 2) (Nat.le_of_ble_eq_true rfl) rfl rfl⟩
      | 2 => simp at hv; subst hv; exact ⟨rfl, _, rfl, .bare rfl⟩
      | j + 3 => simp at hv
    | 1, hi => cases hi; exact ⟨_, rfl, rfl, .bare (ofL_bare (shL_bare hl))⟩
    | 2, hi => cases hi; exact ⟨_, rfl, rfl, .map fun e he => by obtain ⟨x, _, rfl⟩ := List.mem_map.1 he; rfl⟩
    | i + 3, hi => simp [bvN] at hi
set_option maxHeartbeats 16000000 in
theorem bestN_new (h : As.H) (D : Nat) (hD : D ≤ 3) (ex : Bool) (n : Nat) (a b : Nat → Int) (hv : ckL D n a b = 0) (l : Lg n a b) :
    CallOk Try.prog 70 [lgV D ex n a b, .nils] h (bvV h.n (mpS D n a b (2 ^ n))) (addBs h (bvN D (.rsl ex 2 n (lkG a b)) (mkG D n a b (2 ^ n)) (cnC n a b) h.n (mpS D n a b (2 ^ n)))) := by
  have hn := l.le
  have kB : ∀ (h' : As.H) (s : Nat), s = h'.n + 0 → _ := fun h' s e => by
    have := sheetFor_new h' D ex n a b (by omega) hv
    rw [← e] at this
    exact this
  have kW := fun h' => within_ok h' 0 ((n : Int) - 1) [] .nils (by simp) (.nil rfl rfl)
  rw [show wi 0 ((n : Int) - 1) [] = true from rfl] at kW
  have kS := fun g (hg : g < 2 ^ n) h' => size2_ok h' g (Nat.lt_of_lt_of_le hg (Nat.pow_le_pow_right (n := 2) (by omega) (by omega : n ≤ 16)))
  have kT : ∀ (h' : As.H) (x y : Nat), x = h'.n + 0 → y = h'.n + 1 → ∀ mk, h'.get 1 = some (shB D (.rsl ex 2 n (lkG a b)) mk) → CallOk Try.prog 91 [.ptr 1 0, .int .i64 ((D : Int) + 1)] h' (.fn 95 [] [.ptr x 0, .ptr y 0]) (addBs h' [.cells (ofL [.ptr 1 0] 0) true none, .cells (ofL [.int .i64 ((D : Int) + 1)] 0) true none]) := fun h' x y e1 e2 mk hs => by
    have := sets_new h' 1 ((D : Int) + 1) (shL_bare rfl) hs
    rw [← e1, ← e2] at this
    exact this
  have hnd := mpS_nodup D n a b (2 ^ n)
  have hml := mpS_len D n a b (2 ^ n)
  have h2n : 2 ^ n ≤ 4096 := Nat.pow_le_pow_right (n := 2) (by omega) hn
  generalize hFF : mpS D n a b (2 ^ n) = F at *
  generalize hKK : mkG D n a b (2 ^ n) = mkF at *
  obtain ⟨vC, hvC⟩ : ∃ vC : Nat → V, vC = fun N => bvV N F := ⟨_, rfl⟩
  obtain ⟨nC, hnC⟩ : ∃ nC : Nat → List Blk, nC = fun N => bvN D (.rsl ex 2 n (lkG a b)) mkF (cnC n a b) N F := ⟨_, rfl⟩
  have hgoal : CallOk Try.prog 70 [lgV D ex n a b, .nils] h (vC h.n) (addBs h (nC h.n)) → CallOk Try.prog 70 [lgV D ex n a b, .nils] h (bvV h.n F) (addBs h (bvN D (.rsl ex 2 n (lkG a b)) mkF (cnC n a b) h.n F)) := fun hh => by rw [hvC, hnC] at hh; exact hh
  apply hgoal
  clear hgoal
  have hsh : ShV [] 0 h.n (nC 0).length (vC 0) (vC h.n) := by
    rw [hvC, hnC]
    exact bv_sh F (by cases F <;> rfl)
  have hle : (nC h.n).length = (nC 0).length := by rw [hnC]; cases F <;> rfl
  have hbs : ∀ (i : Nat) (b : Blk), (nC 0)[i]? = some b → ∃ b', (nC h.n)[i]? = some b' ∧ b'.wr = true ∧ ShB [] 0 h.n (nC 0).length b b' := by rw [hnC]; exact bv_bs rfl F
  refine CallOk.runN Try.func70 rfl rfl (argsC := [lgV D ex n a b, .nils]) vC nC (Nat.le_of_ble_eq_true rfl) [] (.cons (.lt0 rfl) (.cons (.lt0 rfl) .nil)) (viewM0 h) hsh hle hbs (WpR.of_vc ?_)
  (conv => whnf); (repeat' (first | ((with_reducible refine ifb_mk (fun hc => ?_) (fun hc => ?_)) <;> ((try simp only [decide_eq_true_eq, decide_eq_false_iff_not, Bool.not_eq_true', Bool.not_eq_false', Int.not_lt, Int.not_le, ne_eq, Decidable.not_not, beq_iff_eq, List.cons.injEq, and_true] at hc); (first | (exfalso; omega) | exact absurd True.intro hc | conv => whnf))) | ((with_reducible refine And.intro True.intro ?_); conv => whnf) | ((with_reducible refine WpR.draw (id := 1) mixed [0, 1, 2, 3, 4, 5, 6, 7] [0, 0, 2, 6, 14, 30, 62, 127] ?hh ?_); (case hh => kernel_rfl); conv => whnf) | ((with_reducible refine CallX.all ?_); refine CallW.of_ok (kB _ 1 (by rfl)) ?_; conv => whnf) | ((with_reducible refine grd_ex ?_); refine ex_ok (kT _ 9 10 (by rfl) (by rfl) _ rfl) ?_; conv => whnf) | ((with_reducible refine CallX.all ?_); refine CallW.of_ok (kW _) ?_; conv => whnf) | ((with_reducible refine CallX.all (f := 84) ?_); refine CallW.inline Try.func84 rfl rfl (Nat.le_of_ble_eq_true rfl) (WpR.of_vc ?_); conv => whnf) | ((with_reducible refine CallX.all (f := 91) ?_); refine CallW.inline Try.func91 rfl rfl (Nat.le_of_ble_eq_true rfl) (WpR.of_vc ?_); conv => whnf) | ((with_reducible refine RangeX.all ?_); conv => whnf) | ((with_reducible refine CallW.inline (f := 90) Try.func90 rfl rfl (Nat.le_of_ble_eq_true rfl) (WpR.of_vc ?_)); conv => whnf) | ((with_reducible refine CallW.inline (f := 95) Try.func95 rfl rfl (Nat.le_of_ble_eq_true rfl) (WpR.of_vc ?_)); conv => whnf) | ((with_reducible refine And.intro ?hh ?_); (case hh => exact condA); conv => whnf) | fail))
  have hMap : ∀ mk, ltB 13 (shB D (.rsl ex 2 n (lkG a b)) mk) := fun mk => ltB_ofLb (shL_bare rfl)
  have hMapA : ∀ mk, ltB 1000 (shB D (.rsl ex 2 n (lkG a b)) mk) := fun mk => ltB_ofLb (shL_bare rfl)
  have hMapB : ∀ L k, ltB 13 (.map (enL (cnC n a b) L) k) := fun L k => enL_lt
  have hMapC : ∀ L k, ltB 1000 (.map (enL (cnC n a b) L) k) := fun L k => enL_lt
  have sB : ∀ (ρ : Nat → Nat) mk, SubQ ρ (shB D (.rsl ex 2 n (lkG a b)) mk) (shB D (.rsl ex 2 n (lkG a b)) mk) := fun ρ mk => SubQ.ofL rfl (shL_bare rfl) (.inl rfl)
  have sM : ∀ (ρ : Nat → Nat) L k, SubQ ρ (.map (enL (cnC n a b) L) k) (.map (enL (cnC n a b) L) k) := fun ρ L k => enL_sub L k
  have hraw : IntKind.u16.wrap (1 * 2 ^ min (n : Int).toNat IntKind.u16.bits) = ((2 ^ n : Nat) : Int) := shlRaw (s := n) (by omega)
  generalize hN : 2 ^ n = N at *
  refine WpR.loopA (ι := Nat × Int × (Nat → Bool) × List C4) [] [0, 1, 2, 11] [1, 3] [] 13 (fun q => [(12, .int .u16 q.2.1)]) (fun q => [(1, shB D (.rsl ex 2 n (lkG a b)) q.2.2.1), (3, .map (enL (cnC n a b) (prQ q.2.2.2)) q.2.2.2.length)]) (fun q => N - q.1) (fun q => q.1 ≤ N ∧ q.2.1 = q.1 ∧ q.2.2.2 = mpS D n a b q.1 ∧ q.2.2.1 = mkG D n a b q.1) ?_ ((0, 0, (fun _ => false), [])) (⟨Nat.zero_le _, rfl, rfl, rfl⟩) [] ⟨rfl, rfl, (by (repeat' (first | exact True.intro | rfl | exact gr_ren rfl | exact aV_ren rfl | exact aW_ren rfl rfl | refine And.intro ?_ ?_))), (by (repeat' (first | exact True.intro | rfl | exact gr_ren rfl | exact aV_ren rfl | exact aW_ren rfl rfl | refine And.intro ?_ ?_))), (by (repeat' (first | exact True.intro | rfl | exact gr_ren rfl | exact aV_ren rfl | exact aW_ren rfl rfl | refine And.intro ?_ ?_))), ⟨.inr ⟨_, rfl, sB _ _⟩, .inr ⟨_, rfl, sM _ _ _⟩, trivial⟩, rfl, rfl⟩
  rintro ⟨g, gx, mk, q⟩ ⟨j1, j0, j2, j9⟩
  dsimp only at j1 j0 j2 j9
  subst j0
  refine WpR.of_vc ?_
  by_cases hg : g < N
  · have kSg := kS g hg
    have hwr : IntKind.u16.wrap ((g : Int) + 1) = ((g + 1 : Nat) : Int) := by rw [wrap16 (by omega)]; omega
    rw [cnF_low (n := n) (by omega) (by omega)] at kSg
    by_cases hc : cnF g.testBit n = D + 1
    · rw [hc] at kSg
      have kTh : ∀ (h' : As.H) mk, h'.get 1 = some (shB D (.rsl ex 2 n (lkG a b)) mk) → CallOk Try.prog 61 [.ptr 1 0, .fn 92 [.int .u16 g] []] h' (.tup [crV (crG n a b g), .bool (wkG n a b g)]) h' := fun h' mk hs => throughH_ok h' 1 D ex n a b l g (by omega) (by omega) mk hs
      have hsm : Sm 8796093022208 4 (crG n a b g) := fun k hk => by have := csP_sm (slF_dy (p := g.testBit) (by omega) l.rg l.up) (slF_pl l.at') k hk; unfold crG; omega
      have kDr := fun (h' : As.H) mk hs => draw_ok h' 1 D ex n hn a b l.rg (crG n a b g) hsm mk hs
      have hms : mpS D n a b (g + 1) = if cnF g.testBit n = D + 1 ∧ wkG n a b g = true ∧ c4 (crG n a b g) ∉ mpS D n a b g then c4 (crG n a b g) :: mpS D n a b g else mpS D n a b g := rfl
      rw [← cnC_eq] at kDr
      rw [← j2] at hms
      have hmg : mkG D n a b (g + 1) = if cnF g.testBit n = D + 1 ∧ wkG n a b g = true then mkP (psF (crG n a b g) a b) n else mkG D n a b g := rfl
      rw [← j9] at hmg
      have hcl : cnC n a b (c4 (crG n a b g)) ≤ n := cnF_le _ _
      clear hsm
      cases hw : wkG n a b g with
      | false =>
        rw [hw] at kTh hms hmg
        rw [if_neg (fun h => by cases h.2.1)] at hms
        rw [if_neg (fun h => by cases h.2)] at hmg
        generalize crG n a b g = cr at *
        (conv => whnf); (repeat' (first | ((with_reducible refine ifb_mk (fun hc => ?_) (fun hc => ?_)) <;> ((try simp only [decide_eq_true_eq, decide_eq_false_iff_not, Bool.not_eq_true', Bool.not_eq_false', Int.not_lt, Int.not_le, ne_eq, Decidable.not_not, beq_iff_eq, List.cons.injEq, and_true] at hc); (first | (exfalso; omega) | exact absurd True.intro hc | conv => whnf))) | ((with_reducible refine And.intro True.intro ?_); conv => whnf) | ((with_reducible refine grd_and ?_); refine And.intro (hg) ?_; conv => whnf) | ((with_reducible refine WpR.drawTail (id := 3) mixed 7 [0, 2, 1, 3, 4, 5, 6] [0, 1, 0, 7, 15, 31, 31] ?hh ?hk ?_); (case hh => kernel_rfl); (case hk => kernel_rfl); conv => whnf) | ((with_reducible refine grd_ex ?_); refine ex_ok (kSg _) ?_; conv => whnf) | ((with_reducible refine CallX.all ?_); refine CallW.of_ok (kSg _) ?_; conv => whnf) | ((with_reducible refine And.intro ?hh ?_); (case hh => exact condA); conv => whnf) | fail))
        refine YldX.all ?_
        refine YldW.inline rfl rfl rfl (WpR.of_vc ?_)
        conv => whnf
        refine ⟨rfl, _, rfl, rfl, WpR.of_vc ?_⟩
        (conv => whnf); (repeat' (first | ((with_reducible refine ifb_mk (fun hc => ?_) (fun hc => ?_)) <;> ((try simp only [decide_eq_true_eq, decide_eq_false_iff_not, Bool.not_eq_true', Bool.not_eq_false', Int.not_lt, Int.not_le, ne_eq, Decidable.not_not, beq_iff_eq, List.cons.injEq, and_true] at hc); (first | (exfalso; omega) | exact absurd True.intro hc | conv => whnf))) | ((with_reducible refine And.intro True.intro ?_); conv => whnf) | ((with_reducible refine CallX.all ?_); refine CallW.of_ok (kTh _ _ rfl) ?_; conv => whnf) | ((with_reducible refine And.intro ?hh ?_); (case hh => exact condA); conv => whnf) | fail))
        refine ⟨_, _, rfl, ?_⟩
        (conv => whnf); (repeat' (first | ((with_reducible refine ifb_mk (fun hc => ?_) (fun hc => ?_)) <;> ((try simp only [decide_eq_true_eq, decide_eq_false_iff_not, Bool.not_eq_true', Bool.not_eq_false', Int.not_lt, Int.not_le, ne_eq, Decidable.not_not, beq_iff_eq, List.cons.injEq, and_true] at hc); (first | (exfalso; omega) | exact absurd True.intro hc | conv => whnf))) | ((with_reducible refine And.intro True.intro ?_); conv => whnf) | ((with_reducible refine And.intro ?hh ?_); (case hh => exact condA); conv => whnf) | fail))
        all_goals first | (exfalso; omega) | exact ⟨(g + 1, IntKind.u16.wrap ((g : Int) + 1), mk, q), [], by dsimp only; omega, ⟨by dsimp only; omega, hwr, hms.symm, hmg.symm⟩, ⟨rfl, rfl, (by (repeat' (first | exact True.intro | rfl | exact gr_ren rfl | exact aV_ren rfl | exact aW_ren rfl rfl | refine And.intro ?_ ?_))), (by (repeat' (first | exact True.intro | rfl | exact gr_ren rfl | exact aV_ren rfl | exact aW_ren rfl rfl | refine And.intro ?_ ?_))), (by (repeat' (first | exact True.intro | rfl | exact gr_ren rfl | exact aV_ren rfl | exact aW_ren rfl rfl | refine And.intro ?_ ?_))), ⟨.inr ⟨_, rfl, sB _ _⟩, .inr ⟨_, rfl, sM _ _ _⟩, trivial⟩, rfl, rfl⟩⟩
      | true =>
        rw [hw] at kTh hms hmg
        rw [if_pos ⟨by assumption, rfl⟩] at hmg
        generalize hcr : crG n a b g = cr at *
        (conv => whnf); (repeat' (first | ((with_reducible refine ifb_mk (fun hc => ?_) (fun hc => ?_)) <;> ((try simp only [decide_eq_true_eq, decide_eq_false_iff_not, Bool.not_eq_true', Bool.not_eq_false', Int.not_lt, Int.not_le, ne_eq, Decidable.not_not, beq_iff_eq, List.cons.injEq, and_true] at hc); (first | (exfalso; omega) | exact absurd True.intro hc | conv => whnf))) | ((with_reducible refine And.intro True.intro ?_); conv => whnf) | ((with_reducible refine grd_and ?_); refine And.intro (hg) ?_; conv => whnf) | ((with_reducible refine WpR.drawTail (id := 3) mixed 7 [0, 2, 1, 3, 4, 5, 6] [0, 1, 0, 7, 15, 31, 31] ?hh ?hk ?_); (case hh => kernel_rfl); (case hk => kernel_rfl); conv => whnf) | ((with_reducible refine grd_ex ?_); refine ex_ok (kSg _) ?_; conv => whnf) | ((with_reducible refine CallX.all ?_); refine CallW.of_ok (kSg _) ?_; conv => whnf) | ((with_reducible refine And.intro ?hh ?_); (case hh => exact condA); conv => whnf) | fail))
        refine YldX.all ?_
        refine YldW.inline rfl rfl rfl (WpR.of_vc ?_)
        conv => whnf
        refine ⟨rfl, _, rfl, rfl, WpR.of_vc ?_⟩
        (conv => whnf); (repeat' (first | ((with_reducible refine ifb_mk (fun hc => ?_) (fun hc => ?_)) <;> ((try simp only [decide_eq_true_eq, decide_eq_false_iff_not, Bool.not_eq_true', Bool.not_eq_false', Int.not_lt, Int.not_le, ne_eq, Decidable.not_not, beq_iff_eq, List.cons.injEq, and_true] at hc); (first | (exfalso; omega) | exact absurd True.intro hc | conv => whnf))) | ((with_reducible refine And.intro True.intro ?_); conv => whnf) | ((with_reducible refine CallX.all ?_); refine CallW.of_ok (kTh _ _ rfl) ?_; conv => whnf) | ((with_reducible refine And.intro ?hh ?_); (case hh => exact condA); conv => whnf) | fail))
        refine YldX.all ?_
        refine YldW.inline rfl rfl rfl (WpR.of_vc ?_)
        conv => whnf
        refine ⟨rfl, _, rfl, rfl, WpR.of_vc ?_⟩
        have hkey : plain (.agg [.int .i64 (cr 0), .int .i64 (cr 1), .int .i64 (cr 2), .int .i64 (cr 3)]) = some (key4 (c4 cr)) := rfl
        by_cases hmem : c4 cr ∈ q
        · have hmem2 : c4 cr ∈ (prQ q).map (·.1) := by rw [prQ_keys]; exact List.mem_reverse.2 hmem
          obtain ⟨j, e, f1, f2, f3, f4⟩ := enL_old (cn := cnC n a b) hmem2
          rw [if_neg (fun h => h.2.2 hmem)] at hms
          have hsb : Instr.sameBits 10000 e.1 (key4 (c4 cr)) = true := by rw [f3]; exact same_key _
          have sMs : ∀ ρ : Nat → Nat, SubQ ρ (.map (enL (cnC n a b) (prQ q)) q.length) (.map ((enL (cnC n a b) (prQ q)).set j (key4 (c4 cr), .int .i64 ((cnC n a b (c4 cr) : Nat) : Int), e.2.2)) q.length) := fun ρ => by rw [f4]; exact sM ρ _ _
          (conv => whnf); (repeat' (first | ((with_reducible refine ifb_mk (fun hc => ?_) (fun hc => ?_)) <;> ((try simp only [decide_eq_true_eq, decide_eq_false_iff_not, Bool.not_eq_true', Bool.not_eq_false', Int.not_lt, Int.not_le, ne_eq, Decidable.not_not, beq_iff_eq, List.cons.injEq, and_true] at hc); (first | (exfalso; omega) | exact absurd True.intro hc | conv => whnf))) | ((with_reducible refine And.intro True.intro ?_); conv => whnf) | ((with_reducible refine WpR.draw (id := 9) mixed [0, 1, 2, 3, 4, 5] [0, 0, 0, 0, 12, 31] ?hh ?_); (case hh => kernel_rfl); conv => whnf) | ((with_reducible refine CallX.all ?_); refine CallW.of_ok (kDr _ _ rfl) ?_; conv => whnf) | ((with_reducible refine grd_ex ?_); refine ex_ok (kDr _ _ rfl) ?_; conv => whnf) | (refine som_mk (hkey) ?_; conv => whnf) | (refine som_mk (f1 _) ?_; conv => whnf) | (refine som_mk (f2) ?_; conv => whnf) | ((with_reducible refine grd_and ?_); refine And.intro (hsb) ?_; conv => whnf) | ((with_reducible refine And.intro ?hh ?_); (case hh => exact condA); conv => whnf) | fail))
          refine ⟨_, _, rfl, ?_⟩
          (conv => whnf); (repeat' (first | ((with_reducible refine ifb_mk (fun hc => ?_) (fun hc => ?_)) <;> ((try simp only [decide_eq_true_eq, decide_eq_false_iff_not, Bool.not_eq_true', Bool.not_eq_false', Int.not_lt, Int.not_le, ne_eq, Decidable.not_not, beq_iff_eq, List.cons.injEq, and_true] at hc); (first | (exfalso; omega) | exact absurd True.intro hc | conv => whnf))) | ((with_reducible refine And.intro True.intro ?_); conv => whnf) | ((with_reducible refine And.intro ?hh ?_); (case hh => exact condA); conv => whnf) | fail))
          refine ⟨_, _, rfl, ?_⟩
          (conv => whnf); (repeat' (first | ((with_reducible refine ifb_mk (fun hc => ?_) (fun hc => ?_)) <;> ((try simp only [decide_eq_true_eq, decide_eq_false_iff_not, Bool.not_eq_true', Bool.not_eq_false', Int.not_lt, Int.not_le, ne_eq, Decidable.not_not, beq_iff_eq, List.cons.injEq, and_true] at hc); (first | (exfalso; omega) | exact absurd True.intro hc | conv => whnf))) | ((with_reducible refine And.intro True.intro ?_); conv => whnf) | ((with_reducible refine And.intro ?hh ?_); (case hh => exact condA); conv => whnf) | fail))
          all_goals first | (exfalso; omega) | exact ⟨(g + 1, IntKind.u16.wrap ((g : Int) + 1), mkP (psF cr a b) n, q), [], by dsimp only; omega, ⟨by dsimp only; omega, hwr, hms.symm, hmg.symm⟩, ⟨rfl, rfl, (by (repeat' (first | exact True.intro | rfl | exact gr_ren rfl | exact aV_ren rfl | exact aW_ren rfl rfl | refine And.intro ?_ ?_))), (by (repeat' (first | exact True.intro | rfl | exact gr_ren rfl | exact aV_ren rfl | exact aW_ren rfl rfl | refine And.intro ?_ ?_))), (by (repeat' (first | exact True.intro | rfl | exact gr_ren rfl | exact aV_ren rfl | exact aW_ren rfl rfl | refine And.intro ?_ ?_))), ⟨.inr ⟨_, rfl, sB _ _⟩, .inr ⟨_, rfl, sMs _⟩, trivial⟩, rfl, rfl⟩⟩
        · have hmem2 : c4 cr ∉ (prQ q).map (·.1) := by rw [prQ_keys]; exact fun h => hmem (List.mem_reverse.1 h)
          have f1 := enL_new (cn := cnC n a b) hmem2
          rw [if_pos ⟨by assumption, rfl, hmem⟩] at hms
          have sMn : ∀ ρ : Nat → Nat, SubQ ρ (.map (enL (cnC n a b) (prQ (c4 cr :: q))) (c4 cr :: q).length) (.map (enL (cnC n a b) (prQ q) ++ [(key4 (c4 cr), .int .i64 ((cnC n a b (c4 cr) : Nat) : Int), q.length)]) (q.length + 1)) := fun ρ => by rw [← enL_snoc]; exact sM ρ _ _
          (conv => whnf); (repeat' (first | ((with_reducible refine ifb_mk (fun hc => ?_) (fun hc => ?_)) <;> ((try simp only [decide_eq_true_eq, decide_eq_false_iff_not, Bool.not_eq_true', Bool.not_eq_false', Int.not_lt, Int.not_le, ne_eq, Decidable.not_not, beq_iff_eq, List.cons.injEq, and_true] at hc); (first | (exfalso; omega) | exact absurd True.intro hc | conv => whnf))) | ((with_reducible refine And.intro True.intro ?_); conv => whnf) | ((with_reducible refine WpR.draw (id := 9) mixed [0, 1, 2, 3, 4, 5] [0, 0, 0, 0, 12, 31] ?hh ?_); (case hh => kernel_rfl); conv => whnf) | ((with_reducible refine CallX.all ?_); refine CallW.of_ok (kDr _ _ rfl) ?_; conv => whnf) | ((with_reducible refine grd_ex ?_); refine ex_ok (kDr _ _ rfl) ?_; conv => whnf) | (refine som_mk (hkey) ?_; conv => whnf) | (refine som_mk (f1 _) ?_; conv => whnf) | ((with_reducible refine And.intro ?hh ?_); (case hh => exact condA); conv => whnf) | fail))
          refine ⟨_, _, rfl, ?_⟩
          (conv => whnf); (repeat' (first | ((with_reducible refine ifb_mk (fun hc => ?_) (fun hc => ?_)) <;> ((try simp only [decide_eq_true_eq, decide_eq_false_iff_not, Bool.not_eq_true', Bool.not_eq_false', Int.not_lt, Int.not_le, ne_eq, Decidable.not_not, beq_iff_eq, List.cons.injEq, and_true] at hc); (first | (exfalso; omega) | exact absurd True.intro hc | conv => whnf))) | ((with_reducible refine And.intro True.intro ?_); conv => whnf) | ((with_reducible refine And.intro ?hh ?_); (case hh => exact condA); conv => whnf) | fail))
          refine ⟨_, _, rfl, ?_⟩
          (conv => whnf); (repeat' (first | ((with_reducible refine ifb_mk (fun hc => ?_) (fun hc => ?_)) <;> ((try simp only [decide_eq_true_eq, decide_eq_false_iff_not, Bool.not_eq_true', Bool.not_eq_false', Int.not_lt, Int.not_le, ne_eq, Decidable.not_not, beq_iff_eq, List.cons.injEq, and_true] at hc); (first | (exfalso; omega) | exact absurd True.intro hc | conv => whnf))) | ((with_reducible refine And.intro True.intro ?_); conv => whnf) | ((with_reducible refine And.intro ?hh ?_); (case hh => exact condA); conv => whnf) | fail))
          all_goals first | (exfalso; omega) | exact ⟨(g + 1, IntKind.u16.wrap ((g : Int) + 1), mkP (psF cr a b) n, c4 cr :: q), [], by dsimp only; omega, ⟨by dsimp only; omega, hwr, hms.symm, hmg.symm⟩, ⟨rfl, rfl, (by (repeat' (first | exact True.intro | rfl | exact gr_ren rfl | exact aV_ren rfl | exact aW_ren rfl rfl | refine And.intro ?_ ?_))), (by (repeat' (first | exact True.intro | rfl | exact gr_ren rfl | exact aV_ren rfl | exact aW_ren rfl rfl | refine And.intro ?_ ?_))), (by (repeat' (first | exact True.intro | rfl | exact gr_ren rfl | exact aV_ren rfl | exact aW_ren rfl rfl | refine And.intro ?_ ?_))), ⟨.inr ⟨_, rfl, sB _ _⟩, .inr ⟨_, rfl, sMn _⟩, trivial⟩, rfl, rfl⟩⟩
    · have hms : mpS D n a b (g + 1) = mpS D n a b g := if_neg (fun h => hc h.1)
      rw [← j2] at hms
      have hmg : mkG D n a b (g + 1) = mkG D n a b g := if_neg (fun h => hc h.1)
      rw [← j9] at hmg
      generalize hcn : cnF g.testBit n = cc at *
      (conv => whnf); (repeat' (first | ((with_reducible refine ifb_mk (fun hc => ?_) (fun hc => ?_)) <;> ((try simp only [decide_eq_true_eq, decide_eq_false_iff_not, Bool.not_eq_true', Bool.not_eq_false', Int.not_lt, Int.not_le, ne_eq, Decidable.not_not, beq_iff_eq, List.cons.injEq, and_true] at hc); (first | (exfalso; omega) | exact absurd True.intro hc | conv => whnf))) | ((with_reducible refine And.intro True.intro ?_); conv => whnf) | ((with_reducible refine grd_and ?_); refine And.intro (hg) ?_; conv => whnf) | ((with_reducible refine WpR.draw (id := 3) mixed [0, 2, 1, 3, 4, 5, 6, 7, 8, 9] [0, 1, 0, 7, 15, 31, 31, 127, 255, 511] ?hh ?_); (case hh => kernel_rfl); conv => whnf) | ((with_reducible refine grd_ex ?_); refine ex_ok (kSg _) ?_; conv => whnf) | ((with_reducible refine CallX.all ?_); refine CallW.of_ok (kSg _) ?_; conv => whnf) | ((with_reducible refine And.intro ?hh ?_); (case hh => exact condA); conv => whnf) | fail))
      all_goals first | (exfalso; omega) | exact ⟨(g + 1, IntKind.u16.wrap ((g : Int) + 1), mk, q), [], by dsimp only; omega, ⟨by dsimp only; omega, hwr, hms.symm, hmg.symm⟩, ⟨rfl, rfl, (by (repeat' (first | exact True.intro | rfl | exact gr_ren rfl | exact aV_ren rfl | exact aW_ren rfl rfl | refine And.intro ?_ ?_))), (by (repeat' (first | exact True.intro | rfl | exact gr_ren rfl | exact aV_ren rfl | exact aW_ren rfl rfl | refine And.intro ?_ ?_))), (by (repeat' (first | exact True.intro | rfl | exact gr_ren rfl | exact aV_ren rfl | exact aW_ren rfl rfl | refine And.intro ?_ ?_))), ⟨.inr ⟨_, rfl, sB _ _⟩, .inr ⟨_, rfl, sM _ _ _⟩, trivial⟩, rfl, rfl⟩⟩
  · have eg : g = N := by omega
    subst eg
    have hel : (enL (cnC n a b) (prQ q)).length = q.length := by unfold enL; rw [List.length_map, prQ_len]
    rw [hFF] at j2
    rw [hKK] at j9
    subst j2
    subst j9
    cases q with
    | nil =>
      have e0 : vC 0 = .tup [.nilp, .int .i64 23] := by rw [hvC]; rfl
      have e1 : nC 0 = [] := by rw [hnC]; rfl
      have hel : (enL (cnC n a b) (prQ ([] : List C4))).length = 0 := rfl
      (conv => whnf); (repeat' (first | ((with_reducible refine ifb_mk (fun hc => ?_) (fun hc => ?_)) <;> ((try simp only [decide_eq_true_eq, decide_eq_false_iff_not, Bool.not_eq_true', Bool.not_eq_false', Int.not_lt, Int.not_le, ne_eq, Decidable.not_not, beq_iff_eq, List.cons.injEq, and_true] at hc); (first | (exfalso; omega) | exact absurd True.intro hc | conv => whnf))) | ((with_reducible refine And.intro True.intro ?_); conv => whnf) | ((with_reducible refine grd_and ?_); refine And.intro (hg) ?_; conv => whnf) | ((with_reducible refine And.intro ?hh ?_); (case hh => exact condA); conv => whnf) | fail))
      all_goals first | (exfalso; omega) | exact ⟨[], (by show _ = renV _ (vC 0); rw [e0]; rfl), (by show ltV (0 + (nC 0).length) (vC 0) = true; rw [e0, e1]; rfl), rfl, (by show newsOk _ 0 (0 + (nC 0).length) _ (nC 0) _; rw [e1]; exact trivial), trivs⟩
    | cons c0 q0 =>
    have e0 : vC 0 = .tup [.ptr (0 + 0) 0, .int .i64 0] := by rw [hvC]; rfl
    have e1 : nC 0 = [bsB (0 + 1) (0 + 2) (mxC (cnC n a b) (prQ (c0 :: q0))), shB D (.rsl ex 2 n (lkG a b)) mk, .map (enL (cnC n a b) (bstL (cnC n a b) (prQ (c0 :: q0)))) (c0 :: q0).length] := by rw [hnC]; rfl
    have hpn := prQ_nodup _ hnd
    have hpk := prQ_key hnd
    have hlen : (c0 :: q0).length = q0.length + 1 := rfl
    have hlt : ∀ e ∈ prQ (c0 :: q0), e.2 < (c0 :: q0).length := prQ_lt
    have hin : ∀ e ∈ prQ (c0 :: q0), ∀ x ∈ prQ (c0 :: q0), x.2 = e.2 → x = e := prQ_inj
    have hpl : (prQ (c0 :: q0)).length = (c0 :: q0).length := prQ_len _
    clear hsh hle hbs hvC hnC
    generalize c0 :: q0 = q at *
    have hm0 := msr_nil (prQ q)
    have hmt := fun seen e h1 h2 => msr_lt (L := prQ q) (seen := seen) (q := e) h1 h2
    (conv => whnf); (repeat' (first | ((with_reducible refine ifb_mk (fun hc => ?_) (fun hc => ?_)) <;> ((try simp only [decide_eq_true_eq, decide_eq_false_iff_not, Bool.not_eq_true', Bool.not_eq_false', Int.not_lt, Int.not_le, ne_eq, Decidable.not_not, beq_iff_eq, List.cons.injEq, and_true] at hc); (first | (exfalso; omega) | exact absurd True.intro hc | conv => whnf))) | ((with_reducible refine And.intro True.intro ?_); conv => whnf) | ((with_reducible refine grd_and ?_); refine And.intro (hg) ?_; conv => whnf) | ((with_reducible refine CallX.all (f := 87) ?_); refine CallW.inline Try.func87 rfl rfl (Nat.le_of_ble_eq_true rfl) (WpR.of_vc ?_); conv => whnf) | ((with_reducible refine CallX.all (f := 86) ?_); refine CallW.inline Try.func86 rfl rfl (Nat.le_of_ble_eq_true rfl) (WpR.of_vc ?_); conv => whnf) | ((with_reducible refine CallX.all (f := 93) ?_); refine CallW.inline Try.func93 rfl rfl (Nat.le_of_ble_eq_true rfl) (WpR.of_vc ?_); conv => whnf) | ((with_reducible refine RangeX.all ?_); conv => whnf) | ((with_reducible refine CallW.inline (f := 94) Try.func94 rfl rfl (Nat.le_of_ble_eq_true rfl) (WpR.of_vc ?_)); conv => whnf) | ((with_reducible refine And.intro ?hh ?_); (case hh => exact condA); conv => whnf) | fail))
    all_goals first | (exfalso; omega) | skip
    clear hMap hMapA hMapB hMapC
    have hMap : ∀ k mk, ltB k (shB D (.rsl ex 2 n (lkG a b)) mk) := fun k mk => ltB_ofLb (shL_bare rfl)
    have hMapB : ∀ k L, ltB k (.map (enL (cnC n a b) L) q.length) := fun k L => enL_lt
    have hMapA : ∀ mk, avB [18] (shB D (.rsl ex 2 n (lkG a b)) mk) := fun mk => avB_ofLb (shL_bare rfl)
    have haM : avB [18] (.map (enL (cnC n a b) (prQ q)) q.length) := fun e he => by obtain ⟨x, _, rfl⟩ := List.mem_map.1 he; rfl
    have hMapC : ∀ k (seen : List Nat), ltB (k + 4) (.iter 3 q.length seen q.length) := fun k seen => by show 3 < k + 4; omega
    have hMapD : ∀ k i, ltB (k + 19) (.cells (ofL [grV 18 i] 0) true none) := fun k i => ltB_ofL (by intro v hv; rw [List.mem_singleton.1 hv]; exact grV_lt (by rw [Nat.blt_eq]; omega) i)
    have hMap2 : ∀ k (l : List Int), ltB k (grB 1 (gR eI l) l.length) := fun k l => grB_lt (gR_bare eI_bare) _
    refine WpR.loopA (ι := List Nat × List Int) [18] [0, 1] [7, 8, 9, 10, 12, 14, 17, 18] [] 19 (fun _ => [(6, .ptr 17 0)]) (fun p => [(7, .dead), (8, .dead), (9, .dead), (10, .dead), (12, .dead), (14, .cells (ofL [grV 18 p.2.length] 0) true none), (17, .iter 3 q.length p.1 q.length), (18, grB 1 (gR eI p.2) p.2.length)]) (fun p => msr (prQ q) p.1) (fun p => p.2.length + msr (prQ q) p.1 ≤ q.length ∧ (∀ e ∈ prQ q, e.2 ∈ p.1 → ((cnC n a b e.1 : Nat) : Int) ∈ p.2) ∧ ∀ x ∈ p.2, ∃ e ∈ prQ q, x = ((cnC n a b e.1 : Nat) : Int)) ?_ (([], [])) (⟨by show [].length + msr (prQ q) [] ≤ q.length; rw [hm0, hpl]; exact Nat.le_of_eq (Nat.zero_add _), fun e _ h => (by cases h), fun x h => (by cases h)⟩) [] Back.auto
    rintro ⟨seen, lv⟩ ⟨j1, j3, j4⟩
    dsimp only at j1 j3 j4
    refine WpR.of_vc ?_
    have hsz : ∀ e ∈ enL (cnC n a b) (prQ q), e.2.2 < q.length := fun e he => by
      obtain ⟨x, hx, rfl⟩ := List.mem_map.1 he
      exact hlt x hx
    have hq4 : q.length ≤ 5000 := by omega
    conv => whnf
    refine ⟨hsz, Nat.le_refl _, fun hl => ?_, fun e he => ?_⟩
    · have hne : lv ≠ [] := by
        intro e0
        subst e0
        have hq0 : prQ q ≠ [] := by intro e1; rw [e1] at hpl; simp at hpl; omega
        obtain ⟨e, he, _⟩ := mxC_at (cn := cnC n a b) hq0
        exact absurd (j3 e he (left_nil hl e he)) (List.not_mem_nil)
      have kG : ∀ (h' : As.H) (sv : V), SlC h' (gR eI lv) lv.length sv → CallOk Try.prog 85 [sv] h' (.int .i64 ((mxC (cnC n a b) (prQ q) : Nat) : Int)) h' := fun h' sv hsv => by
        rw [gI_vs] at hsv
        obtain ⟨x0, L0, hx0⟩ : ∃ x L, lv.reverse = x :: L := by
          cases hr : lv.reverse with
          | nil => exact absurd (List.reverse_eq_nil_iff.1 hr) hne
          | cons x L => exact ⟨x, L, rfl⟩
        have hll : lv.length = L0.length + 1 := by rw [← List.length_reverse, hx0]; rfl
        rw [hx0, hll] at hsv
        have := greatest_ok h' x0 L0 sv (by omega) hsv
        have hmx : mxI (x0 :: L0) x0 = ((mxC (cnC n a b) (prQ q) : Nat) : Int) := by
          obtain ⟨g1, g2⟩ := mxI_ge (x0 :: L0) x0
          have hmem : ∀ x, x ∈ x0 :: L0 ↔ x ∈ lv := fun x => by rw [← hx0]; exact List.mem_reverse
          have hq0 : prQ q ≠ [] := by intro e1; rw [e1] at hpl; simp at hpl; omega
          obtain ⟨e, he, hee⟩ := mxC_at (cn := cnC n a b) hq0
          have h1 := g2 _ ((hmem _).2 (j3 e he (left_nil hl e he)))
          have h2 : mxI (x0 :: L0) x0 ∈ x0 :: L0 := by
            rcases mxI_at (x0 :: L0) x0 with h | h
            · rw [h]; exact List.mem_cons_self
            · exact h
          obtain ⟨e', he', hee'⟩ := j4 _ ((hmem _).1 h2)
          have h3 := mxC_ge (cn := cnC n a b) he'
          omega
        rw [hmx] at this
        exact this
      obtain ⟨x0, lv0, rfl⟩ : ∃ x l, lv = x :: l := by
        cases lv with
        | nil => exact absurd rfl hne
        | cons x l => exact ⟨x, l, rfl⟩
      have hmge : ∀ e ∈ prQ q, cnC n a b e.1 ≤ mxC (cnC n a b) (prQ q) := fun e he => mxC_ge he
      have hbst : bstL (cnC n a b) (prQ q) = (prQ q).filter fun e => decide (cnC n a b e.1 = mxC (cnC n a b) (prQ q)) := rfl
      generalize mxC (cnC n a b) (prQ q) = M at *
      (conv => whnf); (repeat' (first | ((with_reducible refine ifb_mk (fun hc => ?_) (fun hc => ?_)) <;> ((try simp only [decide_eq_true_eq, decide_eq_false_iff_not, Bool.not_eq_true', Bool.not_eq_false', Int.not_lt, Int.not_le, ne_eq, Decidable.not_not, beq_iff_eq, List.cons.injEq, and_true] at hc); (first | (exfalso; omega) | exact absurd True.intro hc | conv => whnf))) | ((with_reducible refine And.intro True.intro ?_); conv => whnf) | ((with_reducible refine CallX.all ?_); refine CallW.of_ok (kG _ _ (SlC.own rfl)) ?_; conv => whnf) | ((with_reducible refine And.intro ?hh ?_); (case hh => exact condA); conv => whnf) | fail))
      clear kG
      have hln := lfL_nil (cn := cnC n a b) (m := M) (prQ q)
      have hM0 : ∀ ρ : Nat → Nat, SubQ ρ (.map (enL (cnC n a b) (lfL (cnC n a b) M (prQ q) [])) q.length) (.map (enL (cnC n a b) (prQ q)) q.length) := fun ρ => by rw [hln]; exact enL_sub _ _
      refine WpR.loopA (ι := List Nat) [] [0, 2, 6, 8, 10] [3, 7, 8, 9, 10, 12, 14, 16, 17, 18, 19] [] 20 (fun _ => [(48, .ptr 19 0)]) (fun p => [(3, .map (enL (cnC n a b) (lfL (cnC n a b) M (prQ q) p)) q.length), (7, .dead), (8, .dead), (9, .dead), (10, .dead), (12, .dead), (14, .dead), (16, .dead), (17, .dead), (18, .dead), (19, .iter 3 q.length p q.length)]) (fun p => msr (prQ q) p) (fun _ => True) ?_ ([]) (trivial) [] ⟨rfl, rfl, (by (repeat' (first | exact True.intro | rfl | exact gr_ren rfl | exact aV_ren rfl | exact aW_ren rfl rfl | refine And.intro ?_ ?_))), (by (repeat' (first | exact True.intro | rfl | exact gr_ren rfl | exact aV_ren rfl | exact aW_ren rfl rfl | refine And.intro ?_ ?_))), (by (repeat' (first | exact True.intro | rfl | exact gr_ren rfl | exact aV_ren rfl | exact aW_ren rfl rfl | refine And.intro ?_ ?_))), ⟨.inr ⟨_, rfl, hM0 _⟩, .inl rfl, .inl rfl, .inl rfl, .inl rfl, .inl rfl, .inl rfl, .inl rfl, .inl rfl, .inl rfl, .inr ⟨_, rfl, .iter⟩, trivial⟩, rfl, rfl⟩ (hwf := by (repeat' (first | exact True.intro | (with_reducible exact avB_nil _) | (with_reducible exact hMap _ _) | (with_reducible exact hMapB _ _) | refine And.intro ?_ ?_)); all_goals (show ltB 20 _; exact ltB_all rfl))
      intro seen _
      refine WpR.of_vc ?_
      have hlm := fun e => lfL_mem (cn := cnC n a b) (m := M) (L := prQ q) (seen := seen) (e := e)
      have hsz : ∀ e ∈ enL (cnC n a b) (lfL (cnC n a b) M (prQ q) seen), e.2.2 < q.length := fun e he => by
        obtain ⟨x, hx, rfl⟩ := List.mem_map.1 he
        exact hlt x ((hlm x).1 hx).1
      conv => whnf
      refine ⟨hsz, Nat.le_refl _, fun hl => ?_, fun e he => ?_⟩
      · have hend := lfL_end (cn := cnC n a b) (m := M) hmge (left_nil hl)
        rw [← hbst] at hend
        (conv => whnf); (repeat' (first | ((with_reducible refine ifb_mk (fun hc => ?_) (fun hc => ?_)) <;> ((try simp only [decide_eq_true_eq, decide_eq_false_iff_not, Bool.not_eq_true', Bool.not_eq_false', Int.not_lt, Int.not_le, ne_eq, Decidable.not_not, beq_iff_eq, List.cons.injEq, and_true] at hc); (first | (exfalso; omega) | exact absurd True.intro hc | conv => whnf))) | ((with_reducible refine And.intro True.intro ?_); conv => whnf) | ((with_reducible refine And.intro ?hh ?_); (case hh => exact condA); conv => whnf) | fail))
        have hs1 : SubQ (rhoN 0 [20, 1, 3]) (bsB (0 + 1) (0 + 2) M) (.cells (ofL [.ptr 1 0, .map 3, .int .i64 ((M : Nat) : Int)] 0) true none) := SubQ.fin (by (conv => whnf); (repeat' (first | exact True.intro | rfl | refine And.intro ?_ ?_)); done) (fun h => h) (.inl rfl)
        have hs3 : SubQ (rhoN 0 [20, 1, 3]) (.map (enL (cnC n a b) (bstL (cnC n a b) (prQ q))) q.length) (.map (enL (cnC n a b) (lfL (cnC n a b) M (prQ q) seen)) q.length) := by rw [hend]; exact enL_sub _ _
        have hl1 : ltB 3 (bsB (0 + 1) (0 + 2) M) := ltB_ofL (by intro v hv; (repeat (rcases List.mem_cons.1 hv with rfl | hv; exact rfl)); exact absurd hv (List.not_mem_nil))
        refine ⟨[20, 1, 3], (by show _ = renV _ (vC 0); rw [e0]; rfl), (by show ltV (0 + (nC 0).length) (vC 0) = true; rw [e0, e1]; rfl), rfl, (by show newsOk _ 0 (0 + (nC 0).length) _ (nC 0) _; rw [e1]; exact ⟨⟨_, rfl, rfl, hs1⟩, hl1, rfl, ⟨_, rfl, rfl, SubQ.ofL rfl (shL_bare rfl) (.inl rfl)⟩, ltB_ofLb (shL_bare rfl), rfl, ⟨_, rfl, rfl, hs3⟩, enL_lt, rfl, trivial⟩), trivs⟩
      · obtain ⟨e, hq, rfl, hns⟩ := left_mem he
        have hqL := ((hlm e).1 hq).1
        have hst := find_stamp (cn := cnC n a b) hq (fun x hx => hin e hqL x ((hlm x).1 hx).1)
        have hmm := hmt seen e hqL hns
        have hov : ofVal (key4 e.1) = some (.agg [.int .i64 e.1.1, .int .i64 e.1.2.1, .int .i64 e.1.2.2.1, .int .i64 e.1.2.2.2]) := rfl
        have hkey : plain (.agg [.int .i64 e.1.1, .int .i64 e.1.2.1, .int .i64 e.1.2.2.1, .int .i64 e.1.2.2.2]) = some (key4 e.1) := rfl
        by_cases hlow : cnC n a b e.1 < M
        · have hdrop := lfL_drop (cn := cnC n a b) (m := M) (seen := seen) hin hqL hlow
          have hfi := fun em => enL_find (cn := cnC n a b) em e.1 (lfL (cnC n a b) M (prQ q) seen)
          have hfj : ∃ j, ((lfL (cnC n a b) M (prQ q) seen).map (·.1)).findIdx? (fun a => decide (e.1 = a)) = some j := by
            cases hc : ((lfL (cnC n a b) M (prQ q) seen).map (·.1)).findIdx? (fun a => decide (e.1 = a)) with
            | none =>
              have h1 := List.findIdx?_eq_none_iff.1 hc e.1 (List.mem_map_of_mem hq)
              rw [decide_eq_true rfl] at h1; cases h1
            | some j => exact ⟨j, rfl⟩
          obtain ⟨j, hj⟩ := hfj
          have her := erase_key hq (fun x hx hk => hpk e hqL x ((hlm x).1 hx).1 hk) hj (List.Nodup.sublist List.filter_sublist hpn)
          rw [hdrop] at her
          rw [hj] at hfi
          have hMs : ∀ ρ : Nat → Nat, SubQ ρ (.map (enL (cnC n a b) (lfL (cnC n a b) M (prQ q) (seen ++ [e.2]))) q.length) (.map ((enL (cnC n a b) (lfL (cnC n a b) M (prQ q) seen)).eraseIdx j) q.length) := fun ρ => by rw [enL_erase, her]; exact enL_sub _ _
          (conv => whnf); (repeat' (first | ((with_reducible refine ifb_mk (fun hc => ?_) (fun hc => ?_)) <;> ((try simp only [decide_eq_true_eq, decide_eq_false_iff_not, Bool.not_eq_true', Bool.not_eq_false', Int.not_lt, Int.not_le, ne_eq, Decidable.not_not, beq_iff_eq, List.cons.injEq, and_true] at hc); (first | (exfalso; omega) | exact absurd True.intro hc | conv => whnf))) | ((with_reducible refine And.intro True.intro ?_); conv => whnf) | (refine som_mk (last_snoc _ _) ?_; conv => whnf) | ((with_reducible refine grd_and ?_); refine And.intro (rfl) ?_; conv => whnf) | (refine som_mk (hst) ?_; conv => whnf) | (refine som_mk (hov) ?_; conv => whnf) | (refine som_mk (hkey) ?_; conv => whnf) | (refine som_mk (hfi _) ?_; conv => whnf) | ((with_reducible refine And.intro ?hh ?_); (case hh => exact condA); conv => whnf) | fail))
          all_goals first | (exfalso; omega) | exact ⟨seen ++ [e.2], [], hmm, trivial, ⟨rfl, rfl, (by (repeat' (first | exact True.intro | rfl | exact gr_ren rfl | exact aV_ren rfl | exact aW_ren rfl rfl | refine And.intro ?_ ?_))), (by (repeat' (first | exact True.intro | rfl | exact gr_ren rfl | exact aV_ren rfl | exact aW_ren rfl rfl | refine And.intro ?_ ?_))), (by (repeat' (first | exact True.intro | rfl | exact gr_ren rfl | exact aV_ren rfl | exact aW_ren rfl rfl | refine And.intro ?_ ?_))), ⟨.inr ⟨_, rfl, hMs _⟩, .inl rfl, .inl rfl, .inl rfl, .inl rfl, .inl rfl, .inl rfl, .inl rfl, .inl rfl, .inl rfl, .inr ⟨_, rfl, .iter⟩, trivial⟩, rfl, rfl⟩⟩
        · have hkp := lfL_keep (cn := cnC n a b) (m := M) (seen := seen) hin hqL hlow
          have hMs : ∀ ρ : Nat → Nat, SubQ ρ (.map (enL (cnC n a b) (lfL (cnC n a b) M (prQ q) (seen ++ [e.2]))) q.length) (.map (enL (cnC n a b) (lfL (cnC n a b) M (prQ q) seen)) q.length) := fun ρ => by rw [hkp]; exact enL_sub _ _
          (conv => whnf); (repeat' (first | ((with_reducible refine ifb_mk (fun hc => ?_) (fun hc => ?_)) <;> ((try simp only [decide_eq_true_eq, decide_eq_false_iff_not, Bool.not_eq_true', Bool.not_eq_false', Int.not_lt, Int.not_le, ne_eq, Decidable.not_not, beq_iff_eq, List.cons.injEq, and_true] at hc); (first | (exfalso; omega) | exact absurd True.intro hc | conv => whnf))) | ((with_reducible refine And.intro True.intro ?_); conv => whnf) | (refine som_mk (last_snoc _ _) ?_; conv => whnf) | ((with_reducible refine grd_and ?_); refine And.intro (rfl) ?_; conv => whnf) | (refine som_mk (hst) ?_; conv => whnf) | (refine som_mk (hov) ?_; conv => whnf) | ((with_reducible refine And.intro ?hh ?_); (case hh => exact condA); conv => whnf) | fail))
          all_goals first | (exfalso; omega) | exact ⟨seen ++ [e.2], [], hmm, trivial, ⟨rfl, rfl, (by (repeat' (first | exact True.intro | rfl | exact gr_ren rfl | exact aV_ren rfl | exact aW_ren rfl rfl | refine And.intro ?_ ?_))), (by (repeat' (first | exact True.intro | rfl | exact gr_ren rfl | exact aV_ren rfl | exact aW_ren rfl rfl | refine And.intro ?_ ?_))), (by (repeat' (first | exact True.intro | rfl | exact gr_ren rfl | exact aV_ren rfl | exact aW_ren rfl rfl | refine And.intro ?_ ?_))), ⟨.inr ⟨_, rfl, hMs _⟩, .inl rfl, .inl rfl, .inl rfl, .inl rfl, .inl rfl, .inl rfl, .inl rfl, .inl rfl, .inl rfl, .inr ⟨_, rfl, .iter⟩, trivial⟩, rfl, rfl⟩⟩
    · obtain ⟨e, hq, rfl, hns⟩ := left_mem he
      have hst := find_stamp (cn := cnC n a b) hq (hin e hq)
      have hmm := hmt seen e hq hns
      (conv => whnf); (repeat' (first | ((with_reducible refine ifb_mk (fun hc => ?_) (fun hc => ?_)) <;> ((try simp only [decide_eq_true_eq, decide_eq_false_iff_not, Bool.not_eq_true', Bool.not_eq_false', Int.not_lt, Int.not_le, ne_eq, Decidable.not_not, beq_iff_eq, List.cons.injEq, and_true] at hc); (first | (exfalso; omega) | exact absurd True.intro hc | conv => whnf))) | ((with_reducible refine And.intro True.intro ?_); conv => whnf) | (refine som_mk (last_snoc _ _) ?_; conv => whnf) | ((with_reducible refine grd_and ?_); refine And.intro (rfl) ?_; conv => whnf) | (refine som_mk (hst) ?_; conv => whnf) | ((with_reducible refine YldX.all ?_); refine YldW.inline rfl rfl rfl (WpR.of_vc ?_); conv => whnf) | ((with_reducible refine And.intro ?hh ?_); (case hh => exact condA); conv => whnf) | fail))
      refine ⟨_, rfl, rfl, WpR.of_vc ?_⟩
      (conv => whnf); (repeat' (first | ((with_reducible refine ifb_mk (fun hc => ?_) (fun hc => ?_)) <;> ((try simp only [decide_eq_true_eq, decide_eq_false_iff_not, Bool.not_eq_true', Bool.not_eq_false', Int.not_lt, Int.not_le, ne_eq, Decidable.not_not, beq_iff_eq, List.cons.injEq, and_true] at hc); (first | (exfalso; omega) | exact absurd True.intro hc | conv => whnf))) | ((with_reducible refine And.intro True.intro ?_); conv => whnf) | (refine AppX.gr (n := 1) (L := gR eI lv) (len := lv.length) rfl rfl (gI_len lv) (gI_one lv) Nat.zero_lt_one (by omega) ?_; conv => whnf) | ((with_reducible refine And.intro ?hh ?_); (case hh => exact condA); conv => whnf) | fail))
      all_goals first | (exfalso; omega) | skip
      refine ⟨_, _, rfl, ?_⟩
      (conv => whnf); (repeat' (first | ((with_reducible refine ifb_mk (fun hc => ?_) (fun hc => ?_)) <;> ((try simp only [decide_eq_true_eq, decide_eq_false_iff_not, Bool.not_eq_true', Bool.not_eq_false', Int.not_lt, Int.not_le, ne_eq, Decidable.not_not, beq_iff_eq, List.cons.injEq, and_true] at hc); (first | (exfalso; omega) | exact absurd True.intro hc | conv => whnf))) | ((with_reducible refine And.intro True.intro ?_); conv => whnf) | ((with_reducible refine And.intro ?hh ?_); (case hh => exact condA); conv => whnf) | fail))
      have hgs : ∀ l : List Nat, SubQ (rho [(18, 20)]) (Blk.iter 3 q.length l q.length) (Blk.iter 3 q.length l q.length) := fun _ => .iter
      refine ⟨(seen ++ [e.2], ((cnC n a b e.1 : Nat) : Int) :: lv), [(18, 20)], hmm, ⟨by dsimp only [List.length_cons]; omega, fun x hx hs => ?_, fun x hx => ?_⟩, Back.auto⟩
      · rcases List.mem_append.1 hs with h1 | h1
        · exact List.mem_cons_of_mem _ (j3 x hx h1)
        · have := hin e hq x hx (List.mem_singleton.1 h1)
          subst this; exact List.mem_cons_self
      · rcases List.mem_cons.1 hx with rfl | hx
        · exact ⟨e, hq, rfl⟩
        · exact j4 x hx
end Go.Proofs.K
