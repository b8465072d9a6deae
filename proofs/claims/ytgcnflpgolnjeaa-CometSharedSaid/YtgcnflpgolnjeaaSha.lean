/- What the functions answer that the laws call, one after another (Sha). -/
import Derived.Test.YtgcnflpgolnjeaaAs6
import Derived.Test.YtgcnflpgolnjeaaLg
import Derived.Test.YtgcnflpgolnjeaaUni
import Derived.Test.YtgcnflpgolnjeaaSti
import Derived.Test.YtgcnflpgolnjeaaTN
import Derived.Test.YtgcnflpgolnjeaaAd0
import Derived.Test.YtgcnflpgolnjeaaWk
import Derived.Test.YtgcnflpgolnjeaaRd2
set_option linter.unusedVariables false
set_option linter.unusedSimpArgs false
namespace Go.Proofs.K
open Go.As
set_option maxRecDepth 20000
theorem throughP_new (h : As.H) (D : Nat) (ex ex2 : Bool) (n : Nat) (a b : Nat → Int) (hv : ckL D n a b = 0) (k : Nat) (hk : k = D + 1) (sx : Nat → Int) (hi : incB n k sx = true) (h4 : cnF (selB k sx) n ≤ 4) (hW : alW (cnF (selB k sx) n) (slF (selB k sx) a n) (slF (selB k sx) b n) = true) :
    CallOk Try.prog 23 [lgV D ex n a b, .rsl ex2 1 k (iG sx)] h (.tup [.sl (h.n + 0) 0 (D + 1) (D + 1) true, .int .i64 0]) (addBs h [paB (D + 1) (thP (cnF (selB k sx) n) (slF (selB k sx) a n) (slF (selB k sx) b n))]) := by
  obtain ⟨hD, l⟩ := ckL_lg hv
  have hn := l.le
  have kS : ∀ (h' : As.H) (s : Nat), s = h'.n + 0 → CallOk Try.prog 59 [lgV D ex n a b] h' (.tup [.ptr s 0, .int .i64 0]) (addBs h' [shB D (.rsl ex 2 n (lkG a b)) fun _ => false]) := fun h' s e => by subst e; exact sheetFor_new h' D ex n a b (by omega) hv
  have kI := fun (h' : As.H) (hs : h'.get 2 = some (shB D (.rsl ex 2 n (lkG a b)) fun _ => false)) => increasing_ok h' 2 D ex ex2 n hn a b _ hs k (by omega) sx
  rw [hi] at kI
  have kT := fun (h' : As.H) (hs : h'.get 2 = some (shB D (.rsl ex 2 n (lkG a b)) fun _ => false)) (hq : h'.get 1 = some (.cells (ofL [.rsl ex2 1 k (iG sx)] 0) true none)) => throughC_ok h' 2 1 k (by omega) sx ex2 D ex n a b l h4 _ hs hq
  rw [hW] at kT
  generalize thP (cnF (selB k sx) n) (slF (selB k sx) a n) (slF (selB k sx) b n) = T at *
  have kP : ∀ (h' : As.H) (s : Nat), s = h'.n + 0 → CallOk Try.prog 58 [crV T, .int .i64 D] h' (.sl s 0 (D + 1) (D + 1) true) (addBs h' [paB (D + 1) T]) := fun h' s e => by subst e; exact path_new h' T (D + 1) (by omega) (D : Int) (by omega)
  refine CallOk.runN Try.func23 rfl rfl (argsC := [lgV D ex n a b, .rsl ex2 1 k (iG sx)]) (fun N => .tup [.sl (N + 0) 0 (D + 1) (D + 1) true, .int .i64 0]) (fun _ => [paB (D + 1) T]) (Nat.le_of_ble_eq_true rfl) [] (.cons (.lt0 rfl) (.cons (.lt0 rfl) .nil)) (viewM0 h) (ShV.tup (.cons (.sl (i := 0) (Nat.le_of_ble_eq_true rfl) rfl rfl) (.cons (.bare rfl) .nil))) rfl (fun i b hi => ?_) (WpR.of_vc ?_)
  · match i, hi with
    | 0, hi => cases hi; exact ⟨_, rfl, rfl, .bare (ofL_bare (arrV_bare fun _ => rfl))⟩
    | i + 1, hi => simp at hi
  · (conv => whnf); (repeat' (first | ((with_reducible refine ifb_mk (fun hc => ?_) (fun hc => ?_)) <;> ((try simp only [decide_eq_true_eq, decide_eq_false_iff_not, Bool.not_eq_true', Bool.not_eq_false', Int.not_lt, Int.not_le, ne_eq, Decidable.not_not, beq_iff_eq, List.cons.injEq, and_true] at hc); (first | (exfalso; omega) | exact absurd True.intro hc | conv => whnf))) | ((with_reducible refine And.intro True.intro ?_); conv => whnf) | ((with_reducible refine CallX.all ?_); refine CallW.of_ok (kS _ 2 (by rfl)) ?_; conv => whnf) | ((with_reducible refine CallX.all ?_); refine CallW.of_ok (kI _ rfl) ?_; conv => whnf) | ((with_reducible refine WpR.draw (id := 4) mixed [0, 1, 2, 3, 4, 5, 6, 7, 8] [0, 1, 0, 4, 12, 28, 60, 124, 255] ?hh ?_); (case hh => kernel_rfl); conv => whnf) | ((with_reducible refine WpR.draw (id := 11) mixed [0, 1, 2, 3, 4, 5, 6, 7, 8] [0, 0, 2, 6, 14, 30, 63, 127, 255] ?hh ?_); (case hh => kernel_rfl); conv => whnf) | ((with_reducible refine CallX.all ?_); refine CallW.of_ok (kT _ rfl rfl) ?_; conv => whnf) | ((with_reducible refine CallX.all ?_); refine CallW.of_ok (kP _ 4 (by rfl)) ?_; conv => whnf) | ((with_reducible refine grd_ex ?_); refine ex_ok (kP _ 4 (by rfl)) ?_; conv => whnf) | ((with_reducible refine And.intro ?hh ?_); (case hh => exact condA); conv => whnf) | fail))
    all_goals first | (exfalso; omega) | exact ⟨[4], rfl, rfl, rfl, ⟨⟨_, rfl, rfl, SubQ.ofL rfl (arrV_bare fun _ => rfl) (.inl rfl)⟩, paB_lt, rfl, trivial⟩, trivs⟩
theorem pa_strict {m : Nat} {p : Nat → Int} : ∀ u ∈ arrV m (fun k => V.int .i64 (p k)), strict u = true := fun u hu => by
  obtain ⟨k, _, rfl⟩ := List.mem_map.1 hu
  rfl
theorem tup_own {m1 m2 : M} {N k : Nat} {e : Int} {x : Value} (hm : m1 N = m2 N) (h : VR m1 (.tup [.sl N 0 k k true, .int .i64 e]) x) : VR m2 (.tup [.sl N 0 k k true, .int .i64 e]) x := by
  cases h with
  | tup l hc =>
    refine .tup l fun i v y hv hy => ?_
    have h1 := hc i v y hv hy
    match i, hv with
    | 0, hv =>
      cases hv
      cases h1 with
      | sl h2 h3 => exact .sl (by rw [← hm]; exact h2) h3
      | sl0 h2 => exact .sl0 (by rw [← hm]; exact h2)
    | 1, hv =>
      cases hv
      exact h1.of_strict rfl
    | i + 2, hv => simp at hv
theorem throughP_own (h : As.H) (D : Nat) (n : Nat) (a b : Nat → Int) (hv : ckL D n a b = 0) (k : Nat) (hk : k = D + 1) (sx : Nat → Int) (hi : incB n k sx = true) (h4 : cnF (selB k sx) n ≤ 4) (hW : alW (cnF (selB k sx) n) (slF (selB k sx) a n) (slF (selB k sx) b n) = true) (N : Nat) (hN : N = h.n) {args : List V} (ht : ThL h (fun _ => True) [lgV D false n a b, .rsl false 1 k (iG sx)] args) :
    CallOk Try.prog 23 args h (.tup [.sl N 0 (D + 1) (D + 1) true, .int .i64 0]) (h.new (paB (D + 1) (thP (cnF (selB k sx) n) (slF (selB k sx) a n) (slF (selB k sx) b n)))) := by
  subst hN
  exact CallOk.thawN h (throughP_new ⟨.leaf, h.n, 0⟩ D false false n a b hv k hk sx hi h4 hW) pa_strict (fun m1 m2 x hm hx => tup_own hm hx) ht
end Go.Proofs.K
namespace Go.Proofs.K
open Go.As
set_option maxRecDepth 20000
section
variable {d n : Nat} {a b p q : Nat → Int}
theorem cut_z (p : Nat → Int) : ∀ k, d < k → k < 4 → cut (d + 1) p k = 0 := fun k h _ => by unfold cut; rw [if_neg (by omega)]
theorem on_both (hn : n ≤ 12) (hd : d ≤ 3) : pcN (onN (pmF (d + 1) p a b) n &&& onN (pmF (d + 1) q a b) n) 16 = cnF (fun i => psF (cut (d + 1) p) a b i && psF (cut (d + 1) q) a b i) n := by
  have h1 := onN_lt (ps := pmF (d + 1) p a b) n
  rw [cnF_low (n := n) (Nat.lt_of_le_of_lt Nat.and_le_left h1) (by omega)]
  exact cnF_congr n fun i hi => by rw [Nat.testBit_and, onN_bit, onN_bit, decide_eq_true hi, Bool.true_and, Bool.true_and, pmF_eq (by omega), pmF_eq (by omega)]
theorem two_share (hd : d ≤ 3) (l : Lg n a b) (he : eqB (d + 1) p (d + 1) q = false) : cnF (fun i => psF (cut (d + 1) p) a b i && psF (cut (d + 1) q) a b i) n ≤ d := by
  apply Classical.byContradiction
  intro hc
  have h := ps_one hd l (cut_z p) (cut_z q) (by omega)
  rw [eqB_t rfl fun i hi => ?_] at he
  · cases he
  · have h1 := h i (by omega)
    unfold cut at h1
    rw [if_pos hi, if_pos hi] at h1
    exact h1
theorem on_best (hd : d ≤ 3) (l : Lg n a b) (p : Nat → Int) : cnF (psF (cut (d + 1) p) a b) n ≤ d ∨ c4 (cut (d + 1) p) ∈ mpS d n a b (2 ^ n) ∧ cnC n a b (c4 (cut (d + 1) p)) = cnF (psF (cut (d + 1) p) a b) n := by
  by_cases h : cnF (psF (cut (d + 1) p) a b) n ≤ d
  · exact .inl h
  · exact .inr ⟨(mpS_iff hd l).2 ⟨fun k h1 h2 => by rw [f4_at h2]; exact cut_z p k h1 h2, by rw [cnC_eq]; omega⟩, cnC_eq⟩
theorem shared_facts (hd : d ≤ 3) (hv : ckL d n a b = 0) (p q : Nat → Int) :
    ∃ m e : Int, (∀ h, CallOk Try.prog 29 [lgV d false n a b] h (.tup [.int .i64 m, .int .i64 e]) h) ∧
      (e = 23 ∧ cnF (psF (cut (d + 1) p) a b) n ≤ d ∧ cnF (psF (cut (d + 1) q) a b) n ≤ d ∨
       e = 0 ∧ (d : Int) < m ∧ m ≤ n ∧ (cnF (psF (cut (d + 1) p) a b) n : Int) ≤ m ∧ (cnF (psF (cut (d + 1) q) a b) n : Int) ≤ m ∧ ∃ g : Nat → Int,
         (∀ h, CallOk Try.prog 35 [lgV d false n a b] h (.tup [.rsl false 1 (d + 1) (iG g), .int .i64 0]) h) ∧
         (∀ h, CallOk Try.prog 25 [lgV d false n a b, .rsl false 1 (d + 1) (iG g)] h (.tup [.int .i64 m, .int .i64 0]) h) ∧
         (∀ h, CallOk Try.prog 26 [lgV d false n a b, .rsl false 1 (d + 1) (iG g)] h (.tup [.int .i64 m, .int .i64 0]) h)) := by
  have l := (ckL_lg hv).2
  have hn := l.le
  have kM := fun h => mostP_ok h d hd false n a b hv
  have b1 := on_best hd l p
  have b2 := on_best hd l q
  by_cases hF : mpS d n a b (2 ^ n) = []
  · rw [hF] at kM b1 b2
    refine ⟨0, 23, kM, .inl ⟨rfl, ?_, ?_⟩⟩
    · rcases b1 with h | ⟨h, _⟩
      · exact h
      · cases h
    · rcases b2 with h | ⟨h, _⟩
      · exact h
      · cases h
  · obtain ⟨c, r, e1⟩ := List.exists_cons_of_ne_nil hF
    obtain ⟨g, g1, g2, g3, g4, g5, kP⟩ := path_facts d hd false n a b hv e1
    rw [e1] at kM b1 b2
    dsimp only at kM
    have hge := fun y hy => mx_ge (cn := cnC n a b) (q := c :: r) (c := y) hy
    have hq : ckQ d n a b (d + 1) g = 0 := by
      unfold ckQ
      rw [if_pos hv, if_pos (by omega), if_pos]
      refine allF_t fun i hi => decide_eq_true ?_
      have := g1 i (by omega)
      omega
    have hcn : cpN d n a b (d + 1) g = (mxC (cnC n a b) (prQ (c :: r)) : Nat) := by
      unfold cpN
      rw [if_pos hq, ← g3]
      congr 1
      refine cnF_congr n fun i _ => ?_
      rw [psF_congr fun k hk => ?_]
      unfold cut
      by_cases h : k < d + 1
      · rw [if_pos h]
      · rw [if_neg h, g2 k (by omega)]
    have kC := fun h => checkPathP_ok h d false false n a b (by omega) (d + 1) (by omega) g
    have kR := fun h => checkPathR_ok h d false false n a b (by omega) (d + 1) (by omega) g
    rw [hq, hcn] at kC kR
    refine ⟨((mxC (cnC n a b) (prQ (c :: r)) : Nat) : Int), 0, kM, .inr ⟨rfl, by omega, by omega, ?_, ?_, g, kP, kC, kR⟩⟩
    · rcases b1 with h | ⟨h, h2⟩
      · omega
      · have := hge _ h; omega
    · rcases b2 with h | ⟨h, h2⟩
      · omega
      · have := hge _ h; omega
theorem cp_small (hv : ckL d n a b = 0) (hp : ∀ i, i < d + 1 → -700000000000 ≤ p i ∧ p i ≤ 700000000000) : ckQ d n a b (d + 1) p = 0 ∧ cpN d n a b (d + 1) p = (cnF (psF (cut (d + 1) p) a b) n : Nat) := by
  have hq : ckQ d n a b (d + 1) p = 0 := by
    unfold ckQ
    rw [if_pos hv, if_pos (by omega), if_pos]
    refine allF_t fun i hi => decide_eq_true ?_
    have := hp i hi
    omega
  refine ⟨hq, ?_⟩
  unfold cpN
  rw [if_pos hq]
theorem inc_of {k : Nat} (h : k + d < n) (L : List Int) (hL : ∀ i, i < d + 1 → gL L i = (k : Int) + i) : incB n (d + 1) (gL L) = true := by
  unfold incB
  rw [Bool.and_eq_true]
  refine ⟨allF_t fun i hi => decide_eq_true fun h0 => ?_, allF_t fun i hi => decide_eq_true ?_⟩
  · rw [hL i hi, hL (i - 1) (by omega)]; omega
  · rw [hL i hi]; omega
end
end Go.Proofs.K
namespace Go.Proofs.K
open Go.As
set_option maxRecDepth 20000
theorem th_pa {h : As.H} {q : Nat → Prop} {b m : Nat} {ex : Bool} {p : Nat → Int} (hq : q b) (hb : h.get b = some (paB m p)) : Th h q (.rsl false 1 m (iG p)) (.sl b 0 m m ex) := by
  refine .sl hq hb (fun h => by cases h) (Nat.le_refl _) (fun j hj => rfl) fun j hj k v hv => ?_
  match k with
  | 0 =>
    have e : V.int .i64 (p j) = v := by simpa [iG] using hv
    subst e
    refine ⟨?_, rfl⟩
    rw [show 0 + j * 1 + 0 = j from by omega]
    refine get_ofL0 ?_
    exact arrV_at hj
  | k + 1 => simp [iG] at hv
theorem longs_nil (h : As.H) : CallOk Try.prog 21 [.nils, .nils] h (.bool true) h := by
  refine CallOk.run0 Try.func21 rfl rfl rfl rfl rfl (WpR.of_vc ?_)
  (conv => whnf); (repeat' (first | ((with_reducible refine ifb_mk (fun hc => ?_) (fun hc => ?_)) <;> ((try simp only [decide_eq_true_eq, decide_eq_false_iff_not, Bool.not_eq_true', Bool.not_eq_false', Int.not_lt, Int.not_le, ne_eq, Decidable.not_not, beq_iff_eq, List.cons.injEq, and_true] at hc); (first | (exfalso; omega) | exact absurd True.intro hc | conv => whnf))) | ((with_reducible refine And.intro True.intro ?_); conv => whnf) | ((with_reducible refine WpR.loopU 1 ?_); conv => whnf) | ((with_reducible refine And.intro ?hh ?_); (case hh => exact condA); conv => whnf) | fail))
  all_goals first | (refine ⟨[], ?_, rfl, rfl, trivial, trivs⟩; simp only [renV, renL]; (first | done | rfl | (simp; done) | (simp; omega) | grind)) | (exfalso; omega)
theorem both_own (d n : Nat) (a b : Nat → Int) (hv : ckL d n a b = 0) (L : List Int) (hL : d + 1 = L.length) (hi : incB n (d + 1) (gL L) = true) :
    (∃ T y : Nat → Int, Sm 700000000000 4 T ∧ (∀ (h : As.H) N (hN : N = h.n) bb cap ex gg (hcap : d + 1 ≤ cap) (hb : h.get bb = some (.cells (ofL (iVs L) 0) true gg)), CallOk Try.prog 23 [lgV d false n a b, .sl bb 0 (d + 1) cap ex] h (.tup [.sl N 0 (d + 1) (d + 1) true, .int .i64 0]) (h.new (paB (d + 1) T))) ∧
        (∀ (h : As.H) bb cap ex gg (hcap : d + 1 ≤ cap) (hb : h.get bb = some (.cells (ofL (iVs L) 0) true gg)), CallOk Try.prog 24 [lgV d false n a b, .sl bb 0 (d + 1) cap ex] h (.tup [.rsl false 1 (d + 1) (iG y), .int .i64 0]) (h.put bb .dead)) ∧
        ∀ (h : As.H) N ex (hb : h.get N = some (paB (d + 1) T)), CallOk Try.prog 21 [.sl N 0 (d + 1) (d + 1) ex, .rsl false 1 (d + 1) (iG y)] h (.bool true) h) ∨
    ((∀ (h : As.H) bb cap ex gg (hcap : d + 1 ≤ cap) (hb : h.get bb = some (.cells (ofL (iVs L) 0) true gg)), CallOk Try.prog 23 [lgV d false n a b, .sl bb 0 (d + 1) cap ex] h (.tup [.nils, .int .i64 23]) h) ∧
        ∀ (h : As.H) bb cap ex gg (hcap : d + 1 ≤ cap) (hb : h.get bb = some (.cells (ofL (iVs L) 0) true gg)), CallOk Try.prog 24 [lgV d false n a b, .sl bb 0 (d + 1) cap ex] h (.tup [.nils, .int .i64 23]) h) := by
  obtain ⟨hD, l⟩ := ckL_lg hv
  obtain ⟨s1, _⟩ := sel_all hi
  have h4 : cnF (selB (d + 1) (gL L)) n ≤ 4 := by omega
  cases hW : alW (d + 1) (slF (selB (d + 1) (gL L)) a n) (slF (selB (d + 1) (gL L)) b n) with
  | true =>
    have hW' : alW (cnF (selB (d + 1) (gL L)) n) (slF (selB (d + 1) (gL L)) a n) (slF (selB (d + 1) (gL L)) b n) = true := by rw [s1]; exact hW
    refine .inl ⟨thP (cnF (selB (d + 1) (gL L)) n) (slF (selB (d + 1) (gL L)) a n) (slF (selB (d + 1) (gL L)) b n), _, csP_sm2 (slF_dy h4 l.rg l.up) (slF_pl l.at'), fun h N hN bb cap ex gg hcap hb => throughP_own h d n a b hv (d + 1) rfl (gL L) hi h4 hW' N hN (.cons (.same rfl) (.cons (th_own trivial hL hcap hb) .nil)), fun h bb cap ex gg hcap hb => CallOk.thawF (throughR_yes As.H.empty d false false n a b hv (d + 1) rfl (gL L) hi hW) rfl h bb hb (.cons (.same rfl) (.cons (th_own rfl hL hcap hb) .nil)) (fun m xs hv => occ1 hv), fun h N ex hb => ?_⟩
    have k := longs_ok As.H.empty false false (d + 1) (d + 1) (thP (cnF (selB (d + 1) (gL L)) n) (slF (selB (d + 1) (gL L)) a n) (slF (selB (d + 1) (gL L)) b n)) (fun j => dif (qP (d + 1) (slF (selB (d + 1) (gL L)) a n) (slF (selB (d + 1) (gL L)) b n)) j 0) (by omega) (by omega)
    rw [eqB_t rfl fun i hi => by
      rw [s1]
      unfold thP
      rw [hW]
      show cut (d + 1) _ i = _
      unfold cut
      rw [if_pos hi]] at k
    exact CallOk.thaw k rfl h (.cons (th_pa trivial hb) (.cons (.same rfl) .nil))
  | false =>
    have hW' : alW (cnF (selB (d + 1) (gL L)) n) (slF (selB (d + 1) (gL L)) a n) (slF (selB (d + 1) (gL L)) b n) = false := by rw [s1]; exact hW
    exact .inr ⟨fun h bb cap ex gg hcap hb => CallOk.thaw (throughP_no As.H.empty d false false n a b hv (d + 1) rfl (gL L) hi h4 hW') rfl h (.cons (.same rfl) (.cons (th_own trivial hL hcap hb) .nil)), fun h bb cap ex gg hcap hb => CallOk.thaw (throughR_no As.H.empty d false false n a b hv (d + 1) rfl (gL L) hi hW) rfl h (.cons (.same rfl) (.cons (th_own trivial hL hcap hb) .nil))⟩
set_option maxHeartbeats 16000000 in
theorem lawShared (h : As.H) (D : Int) (n : Nat) (a b : Nat → Int) (hn : n ≤ 9223372036854775807) (p1 p2 : Nat → Int) (w : Int) (hw : 0 ≤ w ∧ w ≤ 255) :
    CallOk Try.prog 7 [lgV D false n a b, byV p1, byV p2, .int .u8 w] h (.bool true) h := by
  have kWk := fun h : As.H => wwhole.everywhere rfl h
  have kR := fun h' => checkLogR_ok h' D false n a b hn
  by_cases hg : 20 < n
  · refine CallOk.run0 Try.func7 rfl rfl rfl rfl rfl (WpR.of_vc ?_)
    (conv => whnf); (repeat' (first | ((with_reducible refine ifb_mk (fun hc => ?_) (fun hc => ?_)) <;> ((try simp only [decide_eq_true_eq, decide_eq_false_iff_not, Bool.not_eq_true', Bool.not_eq_false', Int.not_lt, Int.not_le, ne_eq, Decidable.not_not, beq_iff_eq, List.cons.injEq, and_true] at hc); (first | (exfalso; omega) | exact absurd True.intro hc | conv => whnf))) | ((with_reducible refine And.intro True.intro ?_); conv => whnf) | ((with_reducible refine CallX.all ?_); refine CallW.of_ok (kWk _) ?_; conv => whnf) | ((with_reducible refine CallX.all (f := 40) ?_); refine CallW.inline Try.func40 rfl rfl (Nat.le_of_ble_eq_true rfl) (WpR.of_vc ?_); conv => whnf) | ((with_reducible refine CallX.all (f := 22) ?_); refine CallW.inline Try.func22 rfl rfl (Nat.le_of_ble_eq_true rfl) (WpR.of_vc ?_); conv => whnf) | ((with_reducible refine And.intro ?hh ?_); (case hh => exact condA); conv => whnf) | fail))
    all_goals first | (refine ⟨[], ?_, rfl, rfl, trivial, trivs⟩; simp only [renV, renL]; (first | done | rfl | (simp; done) | (simp; omega) | grind)) | (exfalso; omega)
  by_cases hv : ckL D n a b = 0
  rotate_left
  · generalize ckL D n a b = c at *
    refine CallOk.run0 Try.func7 rfl rfl rfl rfl rfl (WpR.of_vc ?_)
    (conv => whnf); (repeat' (first | ((with_reducible refine ifb_mk (fun hc => ?_) (fun hc => ?_)) <;> ((try simp only [decide_eq_true_eq, decide_eq_false_iff_not, Bool.not_eq_true', Bool.not_eq_false', Int.not_lt, Int.not_le, ne_eq, Decidable.not_not, beq_iff_eq, List.cons.injEq, and_true] at hc); (first | (exfalso; omega) | exact absurd True.intro hc | conv => whnf))) | ((with_reducible refine And.intro True.intro ?_); conv => whnf) | ((with_reducible refine CallX.all ?_); refine CallW.of_ok (kWk _) ?_; conv => whnf) | ((with_reducible refine CallX.all ?_); refine CallW.of_ok (kR _) ?_; conv => whnf) | ((with_reducible refine grd_ex ?_); refine ex_ok (kR _) ?_; conv => whnf) | ((with_reducible refine CallX.all (f := 40) ?_); refine CallW.inline Try.func40 rfl rfl (Nat.le_of_ble_eq_true rfl) (WpR.of_vc ?_); conv => whnf) | ((with_reducible refine CallX.all (f := 22) ?_); refine CallW.inline Try.func22 rfl rfl (Nat.le_of_ble_eq_true rfl) (WpR.of_vc ?_); conv => whnf) | ((with_reducible refine And.intro ?hh ?_); (case hh => exact condA); conv => whnf) | fail))
    all_goals first | (refine ⟨[], ?_, rfl, rfl, trivial, trivs⟩; simp only [renV, renL]; (first | done | rfl | (simp; done) | (simp; omega) | grind)) | (exfalso; omega)
  obtain ⟨hD, l⟩ := ckL_lg hv
  obtain ⟨d, rfl⟩ : ∃ d : Nat, D = (d : Int) := ⟨D.toNat, by omega⟩
  have hd3 : d ≤ 3 := by omega
  have hn12 := l.le
  have kG1 := fun h' => given_ok h' p1 d hd3
  have kG2 := fun h' => given_ok h' p2 d hd3
  have hz1 := gvF_bd p1
  have hz2 := gvF_bd p2
  generalize gvF p1 = z1 at *
  generalize gvF p2 = z2 at *
  have hB : ∀ q : Nat → Int, (∀ i, i < d + 1 → -700000000000 ≤ q i ∧ q i ≤ 700000000000) → ∃ A B S O1 O2 : Nat, ∃ le : Bool, S ≤ n ∧ (le = false → S ≤ d) ∧
      (∀ h', CallOk Try.prog 25 [lgV d false n a b, .rsl false 1 (d + 1) (iG z1)] h' (.tup [.int .i64 A, .int .i64 0]) h') ∧ (∀ h', CallOk Try.prog 25 [lgV d false n a b, .rsl false 1 (d + 1) (iG q)] h' (.tup [.int .i64 B, .int .i64 0]) h') ∧
      (∀ h', CallOk Try.prog 43 [.rsl false 2 n (lkG a b), .rsl false 1 (d + 1) (iG z1)] h' (.int .i64 O1) h') ∧ (∀ h', CallOk Try.prog 43 [.rsl false 2 n (lkG a b), .rsl false 1 (d + 1) (iG q)] h' (.int .i64 O2) h') ∧
      (∀ h', CallOk Try.prog 42 [.int .i64 (IntKind.i64.wrap (((BitVec.ofInt IntKind.i64.bits (O1 : Int) &&& BitVec.ofInt IntKind.i64.bits (O2 : Int)).toNat : Nat) : Int))] h' (.int .i64 S) h') ∧
      (∀ h', CallOk Try.prog 21 [.rsl false 1 (d + 1) (iG z1), .rsl false 1 (d + 1) (iG q)] h' (.bool le) h') ∧
      ∃ m e : Int, (∀ h, CallOk Try.prog 29 [lgV d false n a b] h (.tup [.int .i64 m, .int .i64 e]) h) ∧ (e = 23 ∧ A ≤ d ∧ B ≤ d ∨ e = 0 ∧ (d : Int) < m ∧ m ≤ n ∧ (A : Int) ≤ m ∧ (B : Int) ≤ m ∧ ∃ g : Nat → Int,
         (∀ h, CallOk Try.prog 35 [lgV d false n a b] h (.tup [.rsl false 1 (d + 1) (iG g), .int .i64 0]) h) ∧
         (∀ h, CallOk Try.prog 25 [lgV d false n a b, .rsl false 1 (d + 1) (iG g)] h (.tup [.int .i64 m, .int .i64 0]) h) ∧
         (∀ h, CallOk Try.prog 26 [lgV d false n a b, .rsl false 1 (d + 1) (iG g)] h (.tup [.int .i64 m, .int .i64 0]) h)) := fun q hq => by
    obtain ⟨c1, c2⟩ := cp_small hv (p := z1) fun i _ => by have := hz1 i; omega
    obtain ⟨c3, c4⟩ := cp_small hv (p := q) hq
    have k1 := fun h' => checkPathP_ok h' d false false n a b hn (d + 1) (by omega) z1
    have k2 := fun h' => checkPathP_ok h' d false false n a b hn (d + 1) (by omega) q
    rw [c1, c2] at k1
    rw [c3, c4] at k2
    have o1 := onN_lt (ps := pmF (d + 1) z1 a b) n
    have o2 := onN_lt (ps := pmF (d + 1) q a b) n
    have h2n : 2 ^ n ≤ 4096 := Nat.pow_le_pow_right (n := 2) (by omega) hn12
    obtain ⟨m, e, kM, hF⟩ := shared_facts hd3 hv z1 q
    refine ⟨_, _, pcN (onN (pmF (d + 1) z1 a b) n &&& onN (pmF (d + 1) q a b) n) 16, onN (pmF (d + 1) z1 a b) n, onN (pmF (d + 1) q a b) n, eqB (d + 1) z1 (d + 1) q, ?_, fun he => ?_, k1, k2, fun h' => on_ok h' false false n hn12 a b l.rg (d + 1) (by omega) z1 fun k hk => by have := hz1 k; omega, fun h' => on_ok h' false false n hn12 a b l.rg (d + 1) (by omega) q fun k hk => by have := hq k hk; omega, fun h' => ?_, fun h' => longs_ok h' false false (d + 1) (d + 1) z1 q (by omega) (by omega), m, e, kM, hF⟩
    · rw [on_both hn12 hd3]; exact cnF_le _ _
    · rw [on_both hn12 hd3]; exact two_share hd3 l he
    · rw [and64 (by omega) (by omega)]
      exact sizeR_ok h' _ (Nat.lt_of_le_of_lt Nat.and_le_left (by omega))
  rw [hv] at kR
  have h4 : d = 0 ∨ d = 1 ∨ d = 2 ∨ d = 3 := by omega
  by_cases hnd : n ≤ d
  case' pos =>
    obtain ⟨A, B, S, O1, O2, le, hS1, hS2, kC1, kC2, kO1, kO2, kSz, kLg, m, e, kM, hF⟩ := hB z2 fun i _ => by have := hz2 i; omega
    clear hB h4
    rcases hF with ⟨rfl, u1, u2⟩ | ⟨rfl, u1, u2, u3, u4, g, kP, kCg, kRg⟩
  case' neg =>
    have y0 : (n : Int) - d ≠ 0 := by omega
    obtain ⟨K, eK, hK⟩ : ∃ K : Nat, (IntKind.i64.wrap w).tmod ((n : Int) - d) = K ∧ K + d < n := by
      rw [u8w hw, Int.tmod_eq_emod_of_nonneg hw.1]
      have h1 := Int.emod_nonneg w (b := (n : Int) - d) (by omega)
      have h2 := Int.emod_lt_of_pos w (b := (n : Int) - d) (by omega)
      exact ⟨(w % ((n : Int) - d)).toNat, by omega, by omega⟩
    have y1 : InR ((IntKind.i64.wrap w).tmod ((n : Int) - d)) := by rw [eK]; unfold InR; omega
    have y2 : ∀ j : Int, 0 ≤ j → j ≤ 3 → InR ((IntKind.i64.wrap w).tmod ((n : Int) - d) + j) := fun j h0 h3 => by rw [eK]; unfold InR; omega
    have kN := longs_nil
    have hi := inc_of hK ((List.range (d + 1)).map fun i : Nat => (IntKind.i64.wrap w).tmod ((n : Int) - d) + (i : Int)) fun i hi => by
      unfold gL
      rw [List.getD_eq_getElem?_getD, List.getElem?_map, List.getElem?_range hi, ← eK]; rfl
    have hb := both_own d n a b hv ((List.range (d + 1)).map fun i : Nat => (IntKind.i64.wrap w).tmod ((n : Int) - d) + (i : Int)) (by simp) hi
    clear hi
    rcases hb with ⟨T, y, hT, kT, kY, kL⟩ | ⟨kU, kY⟩
    case' neg.inl =>
      obtain ⟨A, B, S, O1, O2, le, hS1, hS2, kC1, kC2, kO1, kO2, kSz, kLg, m, e, kM, hF⟩ := hB T fun i hi => hT i (by omega)
      have kC3 := fun (h' : As.H) N ex (hb : h'.get N = some (paB (d + 1) T)) => CallOk.thaw (kC2 As.H.empty) rfl h' (.cons (.same rfl) (.cons (th_pa (ex := ex) trivial hb) .nil))
      have kO3 := fun (h' : As.H) N ex (hb : h'.get N = some (paB (d + 1) T)) => CallOk.thaw (kO2 As.H.empty) rfl h' (.cons (.same rfl) (.cons (th_pa (ex := ex) trivial hb) .nil))
      have kL3 := fun (h' : As.H) N ex (hb : h'.get N = some (paB (d + 1) T)) => CallOk.thaw (kLg As.H.empty) rfl h' (.cons (.same rfl) (.cons (th_pa (ex := ex) trivial hb) .nil))
      clear hB
      rcases hF with ⟨rfl, u1, u2⟩ | ⟨rfl, u1, u2, u3, u4, g, kP, kCg, kRg⟩
    case' neg.inr =>
      obtain ⟨A, B, S, O1, O2, le, hS1, hS2, kC1, kC2, kO1, kO2, kSz, kLg, m, e, kM, hF⟩ := hB z2 fun i _ => by have := hz2 i; omega
      clear hB
      rcases hF with ⟨rfl, u1, u2⟩ | ⟨rfl, u1, u2, u3, u4, g, kP, kCg, kRg⟩
    all_goals rcases h4 with rfl | rfl | rfl | rfl
  all_goals cases le
  all_goals
    refine CallOk.run0 Try.func7 rfl rfl rfl rfl rfl (WpR.of_vc ?_)
    (conv => whnf); (repeat' (first | ((with_reducible refine ifb_mk (fun hc => ?_) (fun hc => ?_)) <;> ((try simp only [decide_eq_true_eq, decide_eq_false_iff_not, Bool.not_eq_true', Bool.not_eq_false', Int.not_lt, Int.not_le, ne_eq, Decidable.not_not, beq_iff_eq, List.cons.injEq, and_true] at hc); (first | (exfalso; omega) | exact absurd True.intro hc | conv => whnf))) | ((with_reducible refine And.intro True.intro ?_); conv => whnf) | ((with_reducible refine WpR.loopU 5 ?_); conv => whnf) | ((with_reducible refine grd_and ?_); refine And.intro (y0) ?_; conv => whnf) | ((with_reducible refine grd_and ?_); refine And.intro (y1) ?_; conv => whnf) | ((with_reducible refine grd_and ?_); refine And.intro (y2 0 (by decide) (by decide)) ?_; conv => whnf) | ((with_reducible refine grd_and ?_); refine And.intro (y2 1 (by decide) (by decide)) ?_; conv => whnf) | ((with_reducible refine grd_and ?_); refine And.intro (y2 2 (by decide) (by decide)) ?_; conv => whnf) | ((with_reducible refine grd_and ?_); refine And.intro (y2 3 (by decide) (by decide)) ?_; conv => whnf) | ((with_reducible refine CallX.all ?_); refine CallW.of_ok (kWk _) ?_; conv => whnf) | ((with_reducible refine grd_ex ?_); refine ex_ok (kWk _) ?_; conv => whnf) | ((with_reducible refine CallX.all ?_); refine CallW.of_ok (kR _) ?_; conv => whnf) | ((with_reducible refine grd_ex ?_); refine ex_ok (kR _) ?_; conv => whnf) | ((with_reducible refine CallX.all ?_); refine CallW.of_ok (kG1 _) ?_; conv => whnf) | ((with_reducible refine grd_ex ?_); refine ex_ok (kG1 _) ?_; conv => whnf) | ((with_reducible refine CallX.all ?_); refine CallW.of_ok (kG2 _) ?_; conv => whnf) | ((with_reducible refine grd_ex ?_); refine ex_ok (kG2 _) ?_; conv => whnf) | (refine AppX.nil (n := 1) Nat.zero_lt_one (Nat.le_of_ble_eq_true rfl) ?_; conv => whnf) | (refine AppX.own (n := 1) rfl rfl rfl Nat.zero_lt_one (Nat.le_of_ble_eq_true rfl) ?_; conv => whnf) | ((with_reducible refine CallX.all ?_); refine CallW.of_ok (kT _ 7 (by rfl) _ _ _ _ (by omega) rfl) ?_; conv => whnf) | ((with_reducible refine CallX.all ?_); refine CallW.of_ok (kT _ 9 (by rfl) _ _ _ _ (by omega) rfl) ?_; conv => whnf) | ((with_reducible refine CallX.all ?_); refine CallW.of_ok (kT _ 11 (by rfl) _ _ _ _ (by omega) rfl) ?_; conv => whnf) | ((with_reducible refine CallX.all ?_); refine CallW.of_ok (kT _ 13 (by rfl) _ _ _ _ (by omega) rfl) ?_; conv => whnf) | ((with_reducible refine CallX.all ?_); refine CallW.of_ok (kU _ _ _ _ _ (by omega) rfl) ?_; conv => whnf) | ((with_reducible refine CallX.all ?_); refine CallW.of_ok (kY _ _ _ _ _ (by omega) rfl) ?_; conv => whnf) | ((with_reducible refine CallX.all ?_); refine CallW.of_ok (kL _ _ _ rfl) ?_; conv => whnf) | ((with_reducible refine grd_ex ?_); refine ex_ok (kL _ _ _ rfl) ?_; conv => whnf) | ((with_reducible refine CallX.all ?_); refine CallW.of_ok (kN _) ?_; conv => whnf) | ((with_reducible refine grd_ex ?_); refine ex_ok (kN _) ?_; conv => whnf) | ((with_reducible refine CallX.all ?_); refine CallW.of_ok (kC1 _) ?_; conv => whnf) | ((with_reducible refine CallX.all ?_); refine CallW.of_ok (kC2 _) ?_; conv => whnf) | ((with_reducible refine CallX.all ?_); refine CallW.of_ok (kC3 _ _ _ rfl) ?_; conv => whnf) | ((with_reducible refine CallX.all ?_); refine CallW.of_ok (kO1 _) ?_; conv => whnf) | ((with_reducible refine grd_ex ?_); refine ex_ok (kO1 _) ?_; conv => whnf) | ((with_reducible refine CallX.all ?_); refine CallW.of_ok (kO2 _) ?_; conv => whnf) | ((with_reducible refine grd_ex ?_); refine ex_ok (kO2 _) ?_; conv => whnf) | ((with_reducible refine CallX.all ?_); refine CallW.of_ok (kO3 _ _ _ rfl) ?_; conv => whnf) | ((with_reducible refine grd_ex ?_); refine ex_ok (kO3 _ _ _ rfl) ?_; conv => whnf) | ((with_reducible refine CallX.all ?_); refine CallW.of_ok (kSz _) ?_; conv => whnf) | ((with_reducible refine grd_ex ?_); refine ex_ok (kSz _) ?_; conv => whnf) | ((with_reducible refine CallX.all ?_); refine CallW.of_ok (kLg _) ?_; conv => whnf) | ((with_reducible refine grd_ex ?_); refine ex_ok (kLg _) ?_; conv => whnf) | ((with_reducible refine CallX.all ?_); refine CallW.of_ok (kL3 _ _ _ rfl) ?_; conv => whnf) | ((with_reducible refine grd_ex ?_); refine ex_ok (kL3 _ _ _ rfl) ?_; conv => whnf) | ((with_reducible refine CallX.all ?_); refine CallW.of_ok (kM _) ?_; conv => whnf) | ((with_reducible refine CallX.all ?_); refine CallW.of_ok (kP _) ?_; conv => whnf) | ((with_reducible refine CallX.all ?_); refine CallW.of_ok (kCg _) ?_; conv => whnf) | ((with_reducible refine CallX.all ?_); refine CallW.of_ok (kRg _) ?_; conv => whnf) | ((with_reducible refine CallX.all (f := 40) ?_); refine CallW.inline Try.func40 rfl rfl (Nat.le_of_ble_eq_true rfl) (WpR.of_vc ?_); conv => whnf) | ((with_reducible refine CallX.all (f := 22) ?_); refine CallW.inline Try.func22 rfl rfl (Nat.le_of_ble_eq_true rfl) (WpR.of_vc ?_); conv => whnf) | ((with_reducible refine WpR.draw (id := 3) mixed [0, 1, 2, 4, 5, 6, 3, 7, 8, 9] [0, 1, 0, 7, 0, 16, 0, 127, 255, 511] ?hh ?_); (case hh => kernel_rfl); conv => whnf) | ((with_reducible refine WpR.draw (id := 20) mixed [0, 1, 2, 4, 5, 6, 3, 7, 8, 9, 10] [0, 1, 0, 7, 0, 16, 0, 127, 255, 511, 1023] ?hh ?_); (case hh => kernel_rfl); conv => whnf) | ((with_reducible refine And.intro ?hh ?_); (case hh => exact condA); conv => whnf) | fail))
    all_goals first | (refine ⟨[], ?_, rfl, rfl, trivial, trivs⟩; simp only [renV, renL]; (first | done | rfl | (simp; done) | (simp; omega) | grind)) | (exfalso; omega)
end Go.Proofs.K
