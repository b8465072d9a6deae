/- What the functions answer that the laws call, one after another (Mst). -/
import Derived.Test.YtgcnflpgolnjeaaAs6
import Derived.Test.YtgcnflpgolnjeaaBst
import Derived.Test.YtgcnflpgolnjeaaB10
set_option linter.unusedVariables false
set_option linter.unusedSimpArgs false
namespace Go.Proofs.K
open Go.As
set_option maxRecDepth 20000
theorem bestN_e (h : As.H) (D : Nat) (hD : D ≤ 3) (ex : Bool) (n : Nat) (a b : Nat → Int) (hv : ckL D n a b = 0) (hF : mpS D n a b (2 ^ n) = []) : CallOk Try.prog 70 [lgV D ex n a b, .nils] h (.tup [.nilp, .int .i64 23]) h := by
  have := bestN_new h D hD ex n a b hv (ckL_lg hv).2
  rw [hF] at this
  exact this
theorem bestN_x (h : As.H) (D : Nat) (hD : D ≤ 3) (ex : Bool) (n : Nat) (a b : Nat → Int) (hv : ckL D n a b = 0) {c : C4} {q : List C4} (hF : mpS D n a b (2 ^ n) = c :: q) (x y z : Nat) (e1 : x = h.n + 0) (e2 : y = h.n + 1) (e3 : z = h.n + 2) :
    CallOk Try.prog 70 [lgV D ex n a b, .nils] h (.tup [.ptr x 0, .int .i64 0]) (addBs h [bsB y z (mxC (cnC n a b) (prQ (c :: q))), shB D (.rsl ex 2 n (lkG a b)) (mkG D n a b (2 ^ n)), .map (enL (cnC n a b) (bstL (cnC n a b) (prQ (c :: q)))) (c :: q).length]) := by
  subst e1; subst e2; subst e3
  have := bestN_new h D hD ex n a b hv (ckL_lg hv).2
  rw [hF] at this
  exact this
theorem mostP_ok (h : As.H) (D : Nat) (hD : D ≤ 3) (ex : Bool) (n : Nat) (a b : Nat → Int) (hv : ckL D n a b = 0) :
    CallOk Try.prog 29 [lgV D ex n a b] h (match mpS D n a b (2 ^ n) with | [] => .tup [.int .i64 0, .int .i64 23] | _ :: _ => .tup [.int .i64 ((mxC (cnC n a b) (prQ (mpS D n a b (2 ^ n))) : Nat) : Int), .int .i64 0]) h := by
  cases hF : mpS D n a b (2 ^ n) with
  | nil =>
    have kB := fun h' => bestN_e h' D hD ex n a b hv hF
    refine CallOk.run0 Try.func29 rfl rfl rfl rfl rfl (WpR.of_vc ?_)
    (conv => whnf); (repeat' (first | ((with_reducible refine ifb_mk (fun hc => ?_) (fun hc => ?_)) <;> ((try simp only [decide_eq_true_eq, decide_eq_false_iff_not, Bool.not_eq_true', Bool.not_eq_false', Int.not_lt, Int.not_le, ne_eq, Decidable.not_not, beq_iff_eq, List.cons.injEq, and_true] at hc); (first | (exfalso; omega) | exact absurd True.intro hc | conv => whnf))) | ((with_reducible refine And.intro True.intro ?_); conv => whnf) | ((with_reducible refine CallX.all ?_); refine CallW.of_ok (kB _) ?_; conv => whnf) | ((with_reducible refine And.intro ?hh ?_); (case hh => exact condA); conv => whnf) | fail))
    all_goals first | (refine ⟨[], ?_, rfl, rfl, trivial, trivs⟩; simp only [renV, renL]; (first | done | rfl | (simp; done) | (simp; omega) | grind)) | (exfalso; omega)
  | cons c q =>
    have kB := fun h' => bestN_x h' D hD ex n a b hv hF
    generalize mkG D n a b (2 ^ n) = mk at *
    generalize mxC (cnC n a b) (prQ (c :: q)) = M at *
    generalize enL (cnC n a b) (bstL (cnC n a b) (prQ (c :: q))) = E at *
    generalize (c :: q).length = len at *
    refine CallOk.run0 Try.func29 rfl rfl rfl rfl rfl (WpR.of_vc ?_)
    (conv => whnf); (repeat' (first | ((with_reducible refine ifb_mk (fun hc => ?_) (fun hc => ?_)) <;> ((try simp only [decide_eq_true_eq, decide_eq_false_iff_not, Bool.not_eq_true', Bool.not_eq_false', Int.not_lt, Int.not_le, ne_eq, Decidable.not_not, beq_iff_eq, List.cons.injEq, and_true] at hc); (first | (exfalso; omega) | exact absurd True.intro hc | conv => whnf))) | ((with_reducible refine And.intro True.intro ?_); conv => whnf) | ((with_reducible refine CallX.all ?_); refine CallW.of_ok (kB _ 1 2 3 (by rfl) (by rfl) (by rfl)) ?_; conv => whnf) | ((with_reducible refine And.intro ?hh ?_); (case hh => exact condA); conv => whnf) | fail))
    all_goals first | (refine ⟨[], ?_, rfl, rfl, trivial, trivs⟩; simp only [renV, renL]; (first | done | rfl | (simp; done) | (simp; omega) | grind)) | (exfalso; omega)
theorem countP_ok (h : As.H) (D : Nat) (hD : D ≤ 3) (ex : Bool) (n : Nat) (a b : Nat → Int) (hv : ckL D n a b = 0) :
    CallOk Try.prog 31 [lgV D ex n a b] h (match mpS D n a b (2 ^ n) with | [] => .tup [.int .i64 0, .int .i64 23] | _ :: _ => .tup [.int .i64 (((bstL (cnC n a b) (prQ (mpS D n a b (2 ^ n)))).length : Nat) : Int), .int .i64 0]) h := by
  cases hF : mpS D n a b (2 ^ n) with
  | nil =>
    have kB := fun h' => bestN_e h' D hD ex n a b hv hF
    refine CallOk.run0 Try.func31 rfl rfl rfl rfl rfl (WpR.of_vc ?_)
    (conv => whnf); (repeat' (first | ((with_reducible refine ifb_mk (fun hc => ?_) (fun hc => ?_)) <;> ((try simp only [decide_eq_true_eq, decide_eq_false_iff_not, Bool.not_eq_true', Bool.not_eq_false', Int.not_lt, Int.not_le, ne_eq, Decidable.not_not, beq_iff_eq, List.cons.injEq, and_true] at hc); (first | (exfalso; omega) | exact absurd True.intro hc | conv => whnf))) | ((with_reducible refine And.intro True.intro ?_); conv => whnf) | ((with_reducible refine CallX.all ?_); refine CallW.of_ok (kB _) ?_; conv => whnf) | ((with_reducible refine And.intro ?hh ?_); (case hh => exact condA); conv => whnf) | fail))
    all_goals first | (refine ⟨[], ?_, rfl, rfl, trivial, trivs⟩; simp only [renV, renL]; (first | done | rfl | (simp; done) | (simp; omega) | grind)) | (exfalso; omega)
  | cons c q =>
    have kB := fun h' => bestN_x h' D hD ex n a b hv hF
    generalize mkG D n a b (2 ^ n) = mk at *
    generalize mxC (cnC n a b) (prQ (c :: q)) = M at *
    generalize hL : bstL (cnC n a b) (prQ (c :: q)) = L at *
    have hel : (enL (cnC n a b) L).length = L.length := by unfold enL; rw [List.length_map]
    generalize enL (cnC n a b) L = E at *
    generalize (c :: q).length = len at *
    refine CallOk.run0 Try.func31 rfl rfl rfl rfl rfl (WpR.of_vc ?_)
    (conv => whnf); (repeat' (first | ((with_reducible refine ifb_mk (fun hc => ?_) (fun hc => ?_)) <;> ((try simp only [decide_eq_true_eq, decide_eq_false_iff_not, Bool.not_eq_true', Bool.not_eq_false', Int.not_lt, Int.not_le, ne_eq, Decidable.not_not, beq_iff_eq, List.cons.injEq, and_true] at hc); (first | (exfalso; omega) | exact absurd True.intro hc | conv => whnf))) | ((with_reducible refine And.intro True.intro ?_); conv => whnf) | ((with_reducible refine CallX.all ?_); refine CallW.of_ok (kB _ 1 2 3 (by rfl) (by rfl) (by rfl)) ?_; conv => whnf) | ((with_reducible refine And.intro ?hh ?_); (case hh => exact condA); conv => whnf) | fail))
    all_goals first | (refine ⟨[], ?_, rfl, rfl, trivial, trivs⟩; simp only [renV, renL]; rw [hel]) | (exfalso; omega)
end Go.Proofs.K
namespace Go.Proofs.K
open Go.As
set_option maxRecDepth 20000
def wrN (a b : Nat → Int) (x : Nat) (L : List E4) : Nat := (L.filter fun e => !psF (f4 e.1) a b x).length
def wrM (a b : Nat → Int) (x : Nat) (L : List E4) (seen : List Nat) : Nat := (L.filter fun e => seen.contains e.2 && !psF (f4 e.1) a b x).length
section
variable {a b : Nat → Int} {x : Nat} {L : List E4} {seen : List Nat}
theorem wrM_nil : wrM a b x L [] = 0 := by
  unfold wrM
  rw [List.filter_eq_nil_iff.2 (by simp)]; rfl
theorem wrM_end (h : ∀ e ∈ L, e.2 ∈ seen) : wrM a b x L seen = wrN a b x L := by
  unfold wrM wrN
  congr 1
  refine List.filter_congr fun e he => ?_
  rw [show seen.contains e.2 = true from by simpa using h e he, Bool.true_and]
theorem wrM_le : wrM a b x L seen ≤ L.length := List.length_filter_le _ _
theorem filter_one {α : Type} {p p' : α → Bool} : ∀ {l : List α} {y : α}, l.Nodup → y ∈ l → p y = false → p' y = true → (∀ z ∈ l, z ≠ y → p' z = p z) → (l.filter p').length = (l.filter p).length + 1
  | z :: l, y, hn, hy, h1, h2, h3 => by
    have hd := List.nodup_cons.1 hn
    by_cases e : z = y
    · subst e
      rw [List.filter_cons_of_pos h2, List.filter_cons_of_neg (by rw [h1]; decide), List.length_cons]
      congr 2
      refine List.filter_congr fun w hw => h3 w (List.mem_cons_of_mem _ hw) fun hc => hd.1 (by rw [← hc]; exact hw)
    · have hyl : y ∈ l := by
        rcases List.mem_cons.1 hy with h | h
        · exact absurd h.symm e
        · exact h
      have ih := filter_one hd.2 hyl h1 h2 fun w hw => h3 w (List.mem_cons_of_mem _ hw)
      have hz := h3 z List.mem_cons_self e
      cases hp : p z with
      | true => rw [List.filter_cons_of_pos (by rw [hz, hp]), List.filter_cons_of_pos hp, List.length_cons, List.length_cons, ih]
      | false => rw [List.filter_cons_of_neg (by rw [hz, hp]; decide), List.filter_cons_of_neg (by rw [hp]; decide), ih]
theorem wrM_wrong (hn : L.Nodup) (hin : ∀ z ∈ L, ∀ y ∈ L, y.2 = z.2 → y = z) {e : E4} (he : e ∈ L) (hs : e.2 ∉ seen) (hp : psF (f4 e.1) a b x = false) : wrM a b x L (seen ++ [e.2]) = wrM a b x L seen + 1 := by
  unfold wrM
  refine filter_one hn he ?_ ?_ fun z hz hne => ?_
  · rw [show seen.contains e.2 = false from by simpa using hs, Bool.false_and]
  · rw [hp]; simp
  · have : z.2 ≠ e.2 := fun hc => hne (hin e he z hz hc)
    simp [this]
theorem wrM_right {e : E4} (hin : ∀ z ∈ L, ∀ y ∈ L, y.2 = z.2 → y = z) (he : e ∈ L) (hp : psF (f4 e.1) a b x = true) : wrM a b x L (seen ++ [e.2]) = wrM a b x L seen := by
  unfold wrM
  congr 1
  refine List.filter_congr fun z hz => ?_
  by_cases hze : z = e
  · subst hze; rw [hp]; simp
  · have : z.2 ≠ e.2 := fun hc => hze (hin e he z hz hc)
    simp [this]
end
end Go.Proofs.K
namespace Go.Proofs.K
open Go.As
set_option maxRecDepth 20000
def lvG (D n : Nat) (a b : Nat → Int) (w : Nat) (g : Nat) : Bool := decide (cnF g.testBit n = D + 1) && (wkG n a b g && decide (n ≤ cnF (psF (crG n a b g) a b) n + w))
def lvR (n : Nat) (a b : Nat → Int) (g : Nat) : V := .tup [crV (crG n a b g), .bool true]
def lv0 : V := .tup [crV fun _ => 0, .bool false]
theorem cnF_gap {p : Nat → Bool} {m : Nat} : ∀ d, cnF p (m + d) ≤ cnF p m + d
  | 0 => Nat.le_refl _
  | d + 1 => by
    have := cnF_gap (p := p) (m := m) d
    have e : cnF p (m + (d + 1)) = cnF p (m + d) + (if p (m + d) = true then 1 else 0) := rfl
    rw [e]
    split <;> omega
set_option maxHeartbeats 16000000 in
theorem leaving_ok (h : As.H) (s D : Nat) (hD : D ≤ 3) (ex : Bool) (n : Nat) (a b : Nat → Int) (l : Lg n a b) (w : Nat) (hw12 : w ≤ 12) (mk : Nat → Bool) {wr : Bool} {gg : Option (Nat × Nat)} (hs : h.get s = some (.cells (ofL (shL D (.rsl ex 2 n (lkG a b)) mk) 0) wr gg))
    (R : V) (hR : ∀ g, g < 2 ^ n → lvG D n a b w g = true → (∀ g', g' < g → lvG D n a b w g' = false) → R = lvR n a b g) (hR0 : (∀ g, g < 2 ^ n → lvG D n a b w g = false) → R = lv0) :
    CallOk Try.prog 73 [.ptr s 0, .int .i64 w] h R h := by
  have hn := l.le
  have kS := fun g (hg : g < 2 ^ n) h' => size2_ok h' g (Nat.lt_of_lt_of_le hg (Nat.pow_le_pow_right (n := 2) (by omega) (by omega : n ≤ 16)))
  have hBare : ∀ v ∈ shL D (.rsl ex 2 n (lkG a b)) mk, bare0 v = true := shL_bare rfl
  have kT : ∀ (h' : As.H) (x y : Nat), x = h'.n + 0 → y = h'.n + 1 → h'.get 0 = some (.cells (ofL (shL D (.rsl ex 2 n (lkG a b)) mk) 0) false none) → CallOk Try.prog 91 [.ptr 0 0, .int .i64 ((D : Int) + 1)] h' (.fn 95 [] [.ptr x 0, .ptr y 0]) (addBs h' [.cells (ofL [.ptr 0 0] 0) true none, .cells (ofL [.int .i64 ((D : Int) + 1)] 0) true none]) := fun h' x y e1 e2 hs => by
    have := sets_new h' 0 ((D : Int) + 1) (shL_bare rfl) hs
    rw [← e1, ← e2] at this
    exact this
  have hRb : ltV 0 R = true := by
    by_cases hall : ∀ g, g < 2 ^ n → lvG D n a b w g = false
    · rw [hR0 hall]; rfl
    · have hex : ∃ g, g < 2 ^ n ∧ lvG D n a b w g = true := by
        apply Classical.byContradiction
        intro hc
        exact hall fun g hg => by cases hq : lvG D n a b w g with | false => rfl | true => exact absurd ⟨g, hg, hq⟩ hc
      obtain ⟨g, hg, hq⟩ := hex
      have hmin : ∀ m, m ≤ 2 ^ n → (∀ g', g' < m → lvG D n a b w g' = false) ∨ ∃ g, g < m ∧ lvG D n a b w g = true ∧ ∀ g', g' < g → lvG D n a b w g' = false := fun m => by
        induction m with
        | zero => exact fun _ => .inl fun g' h => absurd h (Nat.not_lt_zero _)
        | succ m ih =>
          intro hm
          rcases ih (by omega) with h1 | ⟨g, h1, h2, h3⟩
          · cases hq : lvG D n a b w m with
            | true => exact .inr ⟨m, by omega, hq, h1⟩
            | false => exact .inl (below_f h1 hq)
          · exact .inr ⟨g, by omega, h2, h3⟩
      rcases hmin (2 ^ n) (Nat.le_refl _) with h1 | ⟨g, h1, h2, h3⟩
      · rw [hR0 h1]; rfl
      · rw [hR g h1 h2 h3]; rfl
  refine CallOk.run Try.func73 rfl rfl (argsC := [.ptr 0 0, .int .i64 w]) (Nat.le_of_ble_eq_true rfl) [some (s, 0)] (.cons (.ptr (i := 0) rfl) (.cons (.bare rfl) .nil)) (one_view hs (shL_bare rfl)) hRb (WpR.of_vc ?_)
  (conv => whnf); (repeat' (first | ((with_reducible refine ifb_mk (fun hc => ?_) (fun hc => ?_)) <;> ((try simp only [decide_eq_true_eq, decide_eq_false_iff_not, Bool.not_eq_true', Bool.not_eq_false', Int.not_lt, Int.not_le, ne_eq, Decidable.not_not, beq_iff_eq, List.cons.injEq, and_true] at hc); (first | (exfalso; omega) | exact absurd True.intro hc | conv => whnf))) | ((with_reducible refine And.intro True.intro ?_); conv => whnf) | ((with_reducible refine WpR.draw (id := 1) mixed [0, 1, 2, 3, 4, 5, 6, 7] [0, 0, 2, 6, 14, 30, 62, 127] ?hh ?_); (case hh => kernel_rfl); conv => whnf) | ((with_reducible refine CallX.all (f := 84) ?_); refine CallW.inline Try.func84 rfl rfl (Nat.le_of_ble_eq_true rfl) (WpR.of_vc ?_); conv => whnf) | ((with_reducible refine grd_ex ?_); refine ex_ok (kT _ 9 10 (by rfl) (by rfl) rfl) ?_; conv => whnf) | ((with_reducible refine RangeX.all ?_); conv => whnf) | ((with_reducible refine CallW.inline (f := 90) Try.func90 rfl rfl (Nat.le_of_ble_eq_true rfl) (WpR.of_vc ?_)); conv => whnf) | ((with_reducible refine CallW.inline (f := 95) Try.func95 rfl rfl (Nat.le_of_ble_eq_true rfl) (WpR.of_vc ?_)); conv => whnf) | ((with_reducible refine And.intro ?hh ?_); (case hh => exact condA); conv => whnf) | fail))
  have hMap : ∀ k, ltB k (.cells (ofL (shL D (.rsl ex 2 n (lkG a b)) mk) 0) false none) := fun k => ltB_ofLb hBare
  have hraw : IntKind.u16.wrap (1 * 2 ^ min (n : Int).toNat IntKind.u16.bits) = ((2 ^ n : Nat) : Int) := shlRaw (s := n) (by omega)
  have h2n : 2 ^ n ≤ 4096 := Nat.pow_le_pow_right (n := 2) (by omega) hn
  generalize hN : 2 ^ n = N at *
  refine WpR.loopA (ι := Nat × Int) [] [0, 1, 2, 11] [] [] 13 (fun q => [(12, .int .u16 q.2)]) (fun _ => []) (fun q => N - q.1) (fun q => (q.1 ≤ N ∧ q.2 = q.1) ∧ ∀ g', g' < q.1 → lvG D n a b w g' = false) ?_ ((0, 0)) (⟨⟨Nat.zero_le _, rfl⟩, fun g' h => absurd h (Nat.not_lt_zero _)⟩) [] Back.auto
  rintro ⟨g, gx⟩ ⟨⟨j1, j0⟩, j2⟩
  dsimp only at j1 j0 j2
  subst j0
  refine WpR.of_vc ?_
  by_cases hg : g < N
  · have kSg := kS g hg
    have hwr : IntKind.u16.wrap ((g : Int) + 1) = ((g + 1 : Nat) : Int) := by rw [wrap16 (by omega)]; omega
    rw [cnF_low (n := n) (by omega) (by omega)] at kSg
    have hlv : lvG D n a b w g = (decide (cnF g.testBit n = D + 1) && (wkG n a b g && decide (n ≤ cnF (psF (crG n a b g) a b) n + w))) := rfl
    by_cases hc : cnF g.testBit n = D + 1
    · rw [hc] at kSg
      rw [decide_eq_true hc, Bool.true_and] at hlv
      have kTh : ∀ (h' : As.H), h'.get 0 = some (.cells (ofL (shL D (.rsl ex 2 n (lkG a b)) mk) 0) false none) → CallOk Try.prog 61 [.ptr 0 0, .fn 92 [.int .u16 g] []] h' (.tup [crV (crG n a b g), .bool (wkG n a b g)]) h' := fun h' hs => throughH_ok h' 0 D ex n a b l g (by omega) (by omega) mk hs
      have hsm : Sm 8796093022208 4 (crG n a b g) := fun k hk => by have := csP_sm (slF_dy (p := g.testBit) (by omega) l.rg l.up) (slF_pl l.at') k hk; unfold crG; omega
      have kP := fun i (hi : i < n) h' => passes_ok h' (crG n a b g) hsm (a i) (b i) (l.rg i hi)
      have hps : ∀ i, psF (crG n a b g) a b i = decide (plc (crG n a b g) (a i).toNat 4 = b i) := fun i => rfl
      simp only [← hps] at kP
      clear hsm hps
      cases hw : wkG n a b g with
      | false =>
        rw [hw] at kTh hlv
        rw [Bool.false_and] at hlv
        generalize crG n a b g = cr at *
        (conv => whnf); (repeat' (first | ((with_reducible refine ifb_mk (fun hc => ?_) (fun hc => ?_)) <;> ((try simp only [decide_eq_true_eq, decide_eq_false_iff_not, Bool.not_eq_true', Bool.not_eq_false', Int.not_lt, Int.not_le, ne_eq, Decidable.not_not, beq_iff_eq, List.cons.injEq, and_true] at hc); (first | (exfalso; omega) | exact absurd True.intro hc | conv => whnf))) | ((with_reducible refine And.intro True.intro ?_); conv => whnf) | ((with_reducible refine grd_and ?_); refine And.intro (hg) ?_; conv => whnf) | ((with_reducible refine WpR.drawTail (id := 3) mixed 7 [0, 2, 1, 3, 4, 5, 6] [0, 1, 0, 7, 15, 31, 31] ?hh ?hk ?_); (case hh => kernel_rfl); (case hk => kernel_rfl); conv => whnf) | ((with_reducible refine grd_ex ?_); refine ex_ok (kSg _) ?_; conv => whnf) | ((with_reducible refine CallX.all ?_); refine CallW.of_ok (kSg _) ?_; conv => whnf) | ((with_reducible refine And.intro ?hh ?_); (case hh => exact condA); conv => whnf) | fail))
        refine YldX.all ?_
        refine YldW.inline rfl rfl rfl (WpR.of_vc ?_)
        conv => whnf
        refine ⟨rfl, _, rfl, rfl, WpR.of_vc ?_⟩
        (conv => whnf); (repeat' (first | ((with_reducible refine ifb_mk (fun hc => ?_) (fun hc => ?_)) <;> ((try simp only [decide_eq_true_eq, decide_eq_false_iff_not, Bool.not_eq_true', Bool.not_eq_false', Int.not_lt, Int.not_le, ne_eq, Decidable.not_not, beq_iff_eq, List.cons.injEq, and_true] at hc); (first | (exfalso; omega) | exact absurd True.intro hc | conv => whnf))) | ((with_reducible refine And.intro True.intro ?_); conv => whnf) | ((with_reducible refine CallX.all ?_); refine CallW.of_ok (kTh _ rfl) ?_; conv => whnf) | ((with_reducible refine And.intro ?hh ?_); (case hh => exact condA); conv => whnf) | fail))
        refine ⟨_, _, rfl, ?_⟩
        (conv => whnf); (repeat' (first | ((with_reducible refine ifb_mk (fun hc => ?_) (fun hc => ?_)) <;> ((try simp only [decide_eq_true_eq, decide_eq_false_iff_not, Bool.not_eq_true', Bool.not_eq_false', Int.not_lt, Int.not_le, ne_eq, Decidable.not_not, beq_iff_eq, List.cons.injEq, and_true] at hc); (first | (exfalso; omega) | exact absurd True.intro hc | conv => whnf))) | ((with_reducible refine And.intro True.intro ?_); conv => whnf) | ((with_reducible refine And.intro ?hh ?_); (case hh => exact condA); conv => whnf) | fail))
        all_goals first | (exfalso; omega) | exact ⟨(g + 1, IntKind.u16.wrap ((g : Int) + 1)), [], by dsimp only; omega, ⟨⟨by dsimp only; omega, hwr⟩, below_f j2 hlv⟩, Back.auto⟩
      | true =>
        rw [hw] at kTh hlv
        rw [Bool.true_and] at hlv
        have hRg := fun h1 => hR g hg h1 j2
        unfold lvR at hRg
        generalize hcr : crG n a b g = cr at *
        generalize hpp : psF cr a b = ps at *
        (conv => whnf); (repeat' (first | ((with_reducible refine ifb_mk (fun hc => ?_) (fun hc => ?_)) <;> ((try simp only [decide_eq_true_eq, decide_eq_false_iff_not, Bool.not_eq_true', Bool.not_eq_false', Int.not_lt, Int.not_le, ne_eq, Decidable.not_not, beq_iff_eq, List.cons.injEq, and_true] at hc); (first | (exfalso; omega) | exact absurd True.intro hc | conv => whnf))) | ((with_reducible refine And.intro True.intro ?_); conv => whnf) | ((with_reducible refine grd_and ?_); refine And.intro (hg) ?_; conv => whnf) | ((with_reducible refine WpR.drawTail (id := 3) mixed 7 [0, 2, 1, 3, 4, 5, 6] [0, 1, 0, 7, 15, 31, 31] ?hh ?hk ?_); (case hh => kernel_rfl); (case hk => kernel_rfl); conv => whnf) | ((with_reducible refine grd_ex ?_); refine ex_ok (kSg _) ?_; conv => whnf) | ((with_reducible refine CallX.all ?_); refine CallW.of_ok (kSg _) ?_; conv => whnf) | ((with_reducible refine And.intro ?hh ?_); (case hh => exact condA); conv => whnf) | fail))
        refine YldX.all ?_
        refine YldW.inline rfl rfl rfl (WpR.of_vc ?_)
        conv => whnf
        refine ⟨rfl, _, rfl, rfl, WpR.of_vc ?_⟩
        (conv => whnf); (repeat' (first | ((with_reducible refine ifb_mk (fun hc => ?_) (fun hc => ?_)) <;> ((try simp only [decide_eq_true_eq, decide_eq_false_iff_not, Bool.not_eq_true', Bool.not_eq_false', Int.not_lt, Int.not_le, ne_eq, Decidable.not_not, beq_iff_eq, List.cons.injEq, and_true] at hc); (first | (exfalso; omega) | exact absurd True.intro hc | conv => whnf))) | ((with_reducible refine And.intro True.intro ?_); conv => whnf) | ((with_reducible refine CallX.all ?_); refine CallW.of_ok (kTh _ rfl) ?_; conv => whnf) | ((with_reducible refine And.intro ?hh ?_); (case hh => exact condA); conv => whnf) | fail))
        refine YldX.all ?_
        refine YldW.inline rfl rfl rfl (WpR.of_vc ?_)
        conv => whnf
        refine ⟨rfl, _, rfl, rfl, WpR.of_vc ?_⟩
        (conv => whnf); (repeat' (first | ((with_reducible refine ifb_mk (fun hc => ?_) (fun hc => ?_)) <;> ((try simp only [decide_eq_true_eq, decide_eq_false_iff_not, Bool.not_eq_true', Bool.not_eq_false', Int.not_lt, Int.not_le, ne_eq, Decidable.not_not, beq_iff_eq, List.cons.injEq, and_true] at hc); (first | (exfalso; omega) | exact absurd True.intro hc | conv => whnf))) | ((with_reducible refine And.intro True.intro ?_); conv => whnf) | ((with_reducible refine And.intro ?hh ?_); (case hh => exact condA); conv => whnf) | fail))
        have hcy := fun i (h : ps i = true) => (slF_yes (a := fun _ => 0) h).1
        have hcn := fun i (h : ps i = false) => (slF_no (a := fun _ => 0) h).1
        have hgap := fun i => cnF_gap (p := ps) (m := i) (n - i)
        have hcl := fun i => cnF_le ps i
        have hc0 : cnF ps 0 = 0 := rfl
        generalize cnF ps = cn at *
        refine WpR.loopA (ι := Nat × Int) [] [2, 3, 4, 5, 6, 18, 19] [] [] 15 (fun q => [(20, .int .i64 q.1), (7, .int .i64 q.2)]) (fun _ => []) (fun q => n - q.1) (fun q => q.1 ≤ n ∧ q.1 ≤ cn q.1 + w ∧ q.2 = (cn q.1 : Int) + w - q.1) ?_ ((0, (w : Int))) (⟨Nat.zero_le _, Nat.zero_le _, by show (w : Int) = (cn 0 : Int) + w - ((0 : Nat) : Int); rw [hc0]; omega⟩) [] Back.auto (hwf := by (repeat' (first | exact True.intro | (with_reducible exact avB_nil _) | (with_reducible exact hMap _) | exact (show ltB 15 _ from ltB_loop rfl rfl) | exact (show ltB 15 _ from ltB_all rfl) | refine And.intro ?_ ?_)))
        rintro ⟨i, lf⟩ ⟨i1, i2, i3⟩
        dsimp only at i1 i2 i3
        refine WpR.of_vc ?_
        by_cases hi : i < n
        · have kPi := kP i hi
          cases hb : ps i with
          | true =>
            rw [hb] at kPi
            have h1 := hcy i hb
            (conv => whnf); (repeat' (first | ((with_reducible refine ifb_mk (fun hc => ?_) (fun hc => ?_)) <;> ((try simp only [decide_eq_true_eq, decide_eq_false_iff_not, Bool.not_eq_true', Bool.not_eq_false', Int.not_lt, Int.not_le, ne_eq, Decidable.not_not, beq_iff_eq, List.cons.injEq, and_true] at hc); (first | (exfalso; omega) | exact absurd True.intro hc | conv => whnf))) | ((with_reducible refine And.intro True.intro ?_); conv => whnf) | ((with_reducible refine grd_and ?_); refine And.intro (hi) ?_; conv => whnf) | ((with_reducible refine CallX.all ?_); refine CallW.of_ok (kPi _) ?_; conv => whnf) | ((with_reducible refine And.intro ?hh ?_); (case hh => exact condA); conv => whnf) | fail))
            all_goals first | (exfalso; omega) | exact ⟨(i + 1, lf), [], by dsimp only; omega, ⟨by dsimp only; omega, by dsimp only; omega, by dsimp only; omega⟩, Back.auto⟩
          | false =>
            rw [hb] at kPi
            have h1 := hcn i hb
            by_cases hl0 : lf = 0
            · have hg1 := hgap (i + 1)
              rw [show i + 1 + (n - (i + 1)) = n from by omega] at hg1
              rw [decide_eq_false (by omega)] at hlv
              (conv => whnf); (repeat' (first | ((with_reducible refine ifb_mk (fun hc => ?_) (fun hc => ?_)) <;> ((try simp only [decide_eq_true_eq, decide_eq_false_iff_not, Bool.not_eq_true', Bool.not_eq_false', Int.not_lt, Int.not_le, ne_eq, Decidable.not_not, beq_iff_eq, List.cons.injEq, and_true] at hc); (first | (exfalso; omega) | exact absurd True.intro hc | conv => whnf))) | ((with_reducible refine And.intro True.intro ?_); conv => whnf) | ((with_reducible refine grd_and ?_); refine And.intro (hi) ?_; conv => whnf) | ((with_reducible refine CallX.all ?_); refine CallW.of_ok (kPi _) ?_; conv => whnf) | ((with_reducible refine And.intro ?hh ?_); (case hh => exact condA); conv => whnf) | fail))
              all_goals first | (exfalso; omega) | skip
              refine ⟨_, _, rfl, ?_⟩
              (conv => whnf); (repeat' (first | ((with_reducible refine ifb_mk (fun hc => ?_) (fun hc => ?_)) <;> ((try simp only [decide_eq_true_eq, decide_eq_false_iff_not, Bool.not_eq_true', Bool.not_eq_false', Int.not_lt, Int.not_le, ne_eq, Decidable.not_not, beq_iff_eq, List.cons.injEq, and_true] at hc); (first | (exfalso; omega) | exact absurd True.intro hc | conv => whnf))) | ((with_reducible refine And.intro True.intro ?_); conv => whnf) | ((with_reducible refine And.intro ?hh ?_); (case hh => exact condA); conv => whnf) | fail))
              refine ⟨_, _, rfl, ?_⟩
              (conv => whnf); (repeat' (first | ((with_reducible refine ifb_mk (fun hc => ?_) (fun hc => ?_)) <;> ((try simp only [decide_eq_true_eq, decide_eq_false_iff_not, Bool.not_eq_true', Bool.not_eq_false', Int.not_lt, Int.not_le, ne_eq, Decidable.not_not, beq_iff_eq, List.cons.injEq, and_true] at hc); (first | (exfalso; omega) | exact absurd True.intro hc | conv => whnf))) | ((with_reducible refine And.intro True.intro ?_); conv => whnf) | ((with_reducible refine And.intro ?hh ?_); (case hh => exact condA); conv => whnf) | fail))
              all_goals first | (exfalso; omega) | exact ⟨(g + 1, IntKind.u16.wrap ((g : Int) + 1)), [], by dsimp only; omega, ⟨⟨by dsimp only; omega, hwr⟩, below_f j2 hlv⟩, Back.auto⟩
            · have hli := hcl i
              have y0 : InR (lf - 1) := by unfold InR; omega
              (conv => whnf); (repeat' (first | ((with_reducible refine ifb_mk (fun hc => ?_) (fun hc => ?_)) <;> ((try simp only [decide_eq_true_eq, decide_eq_false_iff_not, Bool.not_eq_true', Bool.not_eq_false', Int.not_lt, Int.not_le, ne_eq, Decidable.not_not, beq_iff_eq, List.cons.injEq, and_true] at hc); (first | (exfalso; omega) | exact absurd True.intro hc | conv => whnf))) | ((with_reducible refine And.intro True.intro ?_); conv => whnf) | ((with_reducible refine grd_and ?_); refine And.intro (hi) ?_; conv => whnf) | ((with_reducible refine CallX.all ?_); refine CallW.of_ok (kPi _) ?_; conv => whnf) | ((with_reducible refine grd_and ?_); refine And.intro (y0) ?_; conv => whnf) | ((with_reducible refine And.intro ?hh ?_); (case hh => exact condA); conv => whnf) | fail))
              all_goals first | (exfalso; omega) | exact ⟨(i + 1, lf - 1), [], by dsimp only; omega, ⟨by dsimp only; omega, by dsimp only; omega, by dsimp only; omega⟩, Back.auto⟩
        · have e : i = n := by omega
          subst e
          rw [decide_eq_true (by omega)] at hlv
          have eR := hRg hlv
          subst eR
          (conv => whnf); (repeat' (first | ((with_reducible refine ifb_mk (fun hc => ?_) (fun hc => ?_)) <;> ((try simp only [decide_eq_true_eq, decide_eq_false_iff_not, Bool.not_eq_true', Bool.not_eq_false', Int.not_lt, Int.not_le, ne_eq, Decidable.not_not, beq_iff_eq, List.cons.injEq, and_true] at hc); (first | (exfalso; omega) | exact absurd True.intro hc | conv => whnf))) | ((with_reducible refine And.intro True.intro ?_); conv => whnf) | ((with_reducible refine grd_and ?_); refine And.intro (hi) ?_; conv => whnf) | ((with_reducible refine And.intro ?hh ?_); (case hh => exact condA); conv => whnf) | fail))
          all_goals first | (exfalso; omega) | skip
          refine ⟨_, _, rfl, ?_⟩
          (conv => whnf); (repeat' (first | ((with_reducible refine ifb_mk (fun hc => ?_) (fun hc => ?_)) <;> ((try simp only [decide_eq_true_eq, decide_eq_false_iff_not, Bool.not_eq_true', Bool.not_eq_false', Int.not_lt, Int.not_le, ne_eq, Decidable.not_not, beq_iff_eq, List.cons.injEq, and_true] at hc); (first | (exfalso; omega) | exact absurd True.intro hc | conv => whnf))) | ((with_reducible refine And.intro True.intro ?_); conv => whnf) | ((with_reducible refine And.intro ?hh ?_); (case hh => exact condA); conv => whnf) | fail))
          refine ⟨_, _, rfl, ?_⟩
          (conv => whnf); (repeat' (first | ((with_reducible refine ifb_mk (fun hc => ?_) (fun hc => ?_)) <;> ((try simp only [decide_eq_true_eq, decide_eq_false_iff_not, Bool.not_eq_true', Bool.not_eq_false', Int.not_lt, Int.not_le, ne_eq, Decidable.not_not, beq_iff_eq, List.cons.injEq, and_true] at hc); (first | (exfalso; omega) | exact absurd True.intro hc | conv => whnf))) | ((with_reducible refine And.intro True.intro ?_); conv => whnf) | ((with_reducible refine And.intro ?hh ?_); (case hh => exact condA); conv => whnf) | fail))
          all_goals first | (exfalso; omega) | (refine ⟨[], ?_, rfl, rfl, trivial, trivs⟩; simp only [renV, renL]; (first | done | rfl | (simp; done) | (simp; omega) | grind))
    · have hlv2 : lvG D n a b w g = false := by rw [hlv, decide_eq_false hc, Bool.false_and]
      generalize hcn : cnF g.testBit n = cc at *
      (conv => whnf); (repeat' (first | ((with_reducible refine ifb_mk (fun hc => ?_) (fun hc => ?_)) <;> ((try simp only [decide_eq_true_eq, decide_eq_false_iff_not, Bool.not_eq_true', Bool.not_eq_false', Int.not_lt, Int.not_le, ne_eq, Decidable.not_not, beq_iff_eq, List.cons.injEq, and_true] at hc); (first | (exfalso; omega) | exact absurd True.intro hc | conv => whnf))) | ((with_reducible refine And.intro True.intro ?_); conv => whnf) | ((with_reducible refine grd_and ?_); refine And.intro (hg) ?_; conv => whnf) | ((with_reducible refine WpR.draw (id := 3) mixed [0, 2, 1, 3, 4, 5, 6, 7, 8, 9] [0, 1, 0, 7, 15, 31, 31, 127, 255, 511] ?hh ?_); (case hh => kernel_rfl); conv => whnf) | ((with_reducible refine grd_ex ?_); refine ex_ok (kSg _) ?_; conv => whnf) | ((with_reducible refine CallX.all ?_); refine CallW.of_ok (kSg _) ?_; conv => whnf) | ((with_reducible refine And.intro ?hh ?_); (case hh => exact condA); conv => whnf) | fail))
      all_goals first | (exfalso; omega) | exact ⟨(g + 1, IntKind.u16.wrap ((g : Int) + 1)), [], by dsimp only; omega, ⟨⟨by dsimp only; omega, hwr⟩, below_f j2 hlv2⟩, Back.auto⟩
  · have eg : g = N := by omega
    subst eg
    have e := hR0 j2
    subst e
    (conv => whnf); (repeat' (first | ((with_reducible refine ifb_mk (fun hc => ?_) (fun hc => ?_)) <;> ((try simp only [decide_eq_true_eq, decide_eq_false_iff_not, Bool.not_eq_true', Bool.not_eq_false', Int.not_lt, Int.not_le, ne_eq, Decidable.not_not, beq_iff_eq, List.cons.injEq, and_true] at hc); (first | (exfalso; omega) | exact absurd True.intro hc | conv => whnf))) | ((with_reducible refine And.intro True.intro ?_); conv => whnf) | ((with_reducible refine grd_and ?_); refine And.intro (hg) ?_; conv => whnf) | ((with_reducible refine And.intro ?hh ?_); (case hh => exact condA); conv => whnf) | fail))
    all_goals first | (exfalso; omega) | (refine ⟨[], ?_, rfl, rfl, trivial, trivs⟩; simp only [renV, renL]; (first | done | rfl | (simp; done) | (simp; omega) | grind))
end Go.Proofs.K
