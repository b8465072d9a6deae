/- What the functions answer that the laws call, one after another (Bk1). -/
import Derived.Test.YtmfohdhnpanfeaaAs6
import Derived.Test.YtmfohdhnpanfeaaMg

set_option linter.unusedVariables false
namespace Go.Proofs.Q
open Go.As
set_option maxRecDepth 20000
set_option linter.unusedVariables false
set_option linter.unusedSimpArgs false

/-! ### Marks that turn marks back -/

/-- What is struck, what is added so far, the last one first. -/
abbrev BS := List Int × List (List UInt8)
def bAdd (x : BS) : BS := ((((x.2.length : Nat) : Int) - 1) :: x.1, [] :: x.2)
def bStr (x : BS) (c : List UInt8) : BS := (x.1, match x.2 with
  | [] => []
  | d :: ds => (d ++ c) :: ds)
def bLeft (x : BS) : BS := (x.1, [] :: x.2)
def bAdds (x : BS) : Nat → BS
  | 0 => x
  | j + 1 => bAdd (bAdds x j)
def bkF (T : List UInt8) (st : Nat → Bool) (A : Nat → List UInt8) : Nat → BS
  | 0 => ([], [[]])
  | i + 1 => if st i = true then bStr (bAdds (bkF T st A i) (A i).length) (chr T i) else bLeft (bAdds (bkF T st A i) (A i).length)
theorem bAdds_len (x : BS) : ∀ j, (bAdds x j).2.length = x.2.length + j ∧ (bAdds x j).1.length = x.1.length + j
  | 0 => ⟨rfl, rfl⟩
  | j + 1 => by
    obtain ⟨h1, h2⟩ := bAdds_len x j
    show ([] :: (bAdds x j).2).length = _ ∧ (_ :: (bAdds x j).1).length = _
    rw [List.length_cons, List.length_cons, h1, h2]
    exact ⟨by omega, by omega⟩
theorem bAdds_mem (x : BS) {n : Nat} (h : ∀ d ∈ x.2, d.length ≤ n) : ∀ j, ∀ d ∈ (bAdds x j).2, d.length ≤ n
  | 0 => h
  | j + 1 => fun d hd => by
    rcases List.mem_cons.1 (show d ∈ [] :: (bAdds x j).2 from hd) with rfl | hd
    · simp
    · exact bAdds_mem x h j d hd
theorem chr_len1 {T : List UInt8} {i : Nat} (h : i < T.length) : (chr T i).length = 1 := by
  unfold chr
  rw [List.length_take, List.length_drop]; omega
theorem bStr_len (x : BS) (c : List UInt8) : (bStr x c).2.length = x.2.length := by
  obtain ⟨s, d⟩ := x
  cases d <;> rfl
theorem bkF_len {T : List UInt8} {st : Nat → Bool} {A : Nat → List UInt8} : ∀ {i : Nat}, i ≤ T.length → (bkF T st A i).2.length = (mkF T st A i).length + 1 ∧ (bkF T st A i).1.length + 1 ≤ (bkF T st A i).2.length ∧ ∀ d ∈ (bkF T st A i).2, d.length ≤ i
  | 0, _ => ⟨rfl, Nat.le_refl _, fun d hd => by rw [List.mem_singleton.1 hd]; simp⟩
  | i + 1, hi => by
    obtain ⟨h1, h2, h3⟩ := bkF_len (T := T) (st := st) (A := A) (i := i) (by omega)
    obtain ⟨g1, g2⟩ := bAdds_len (bkF T st A i) (A i).length
    have g3 := bAdds_mem (bkF T st A i) h3 (A i).length
    have em : mkF T st A (i + 1) = mkF T st A i ++ A i ++ (if st i = true then [] else chr T i) := rfl
    have eb : bkF T st A (i + 1) = if st i = true then bStr (bAdds (bkF T st A i) (A i).length) (chr T i) else bLeft (bAdds (bkF T st A i) (A i).length) := rfl
    have hc := chr_len1 (T := T) (i := i) (by omega)
    generalize bAdds (bkF T st A i) (A i).length = x at *
    rw [em, eb]
    cases st i with
    | true =>
      rw [if_pos rfl, if_pos rfl, List.append_nil, List.length_append]
      refine ⟨by rw [bStr_len, g1, h1]; omega, by rw [bStr_len]; show x.1.length + 1 ≤ _; omega, fun d hd => ?_⟩
      obtain ⟨s, l⟩ := x
      cases l with
      | nil => cases hd
      | cons y l =>
        rcases List.mem_cons.1 hd with rfl | hd
        · have := g3 y (List.mem_cons_self ..)
          rw [List.length_append, hc]; omega
        · have := g3 d (List.mem_cons_of_mem _ hd); omega
    | false =>
      rw [if_neg (by decide), if_neg (by decide), List.length_append, List.length_append, hc]
      refine ⟨by show ([] :: x.2).length = _; rw [List.length_cons, g1, h1]; omega, by show x.1.length + 1 ≤ ([] :: x.2).length; rw [List.length_cons]; omega, fun d hd => ?_⟩
      rcases List.mem_cons.1 (show d ∈ [] :: x.2 from hd) with rfl | hd
      · simp
      · have := g3 d hd; omega

/-- A list of one element that was built, or of more, that was grown from it. -/
def aV (b : Nat) : Nat → V
  | 0 => .nils
  | 1 => .sl b 0 1 1 true
  | n + 2 => .sl b 0 (n + 2) (n + 2) false
noncomputable def aB (L : List V) : Nat → Blk
  | 0 => .dead
  | 1 => .cells (ofL L 0) true none
  | n + 2 => .cells (ofL L 0) true (some (1, (n + 2) * 1))
theorem aV_lt {b n : Nat} (h : Nat.blt b n = true) : ∀ i, ltV n (aV b i) = true
  | 0 => rfl
  | 1 => h
  | _ + 2 => h
theorem aV_ren {ρ : Nat → Nat} {b n : Nat} (h : ρ b = b) : some (aV b n) = some (renV ρ (aV b n)) := by
  match n with
  | 0 => rfl
  | 1 => show _ = some (V.sl (ρ b) 0 1 1 true); rw [h]; rfl
  | n + 2 => show _ = some (V.sl (ρ b) 0 (n + 2) (n + 2) false); rw [h]; rfl
theorem aB_lt {n : Nat} {L : List V} (hb : ∀ v ∈ L, bare0 v = true) : ∀ i, ltB n (aB L i)
  | 0 => trivial
  | 1 => ltB_ofLb hb
  | _ + 2 => ltB_ofLb hb
theorem aB_keep {ρ : Nat → Nat} {len : Nat} {L : List V} {o : Option Blk} (hb : ∀ v ∈ L, bare0 v = true) (ho : o = some (aB L len)) : aB L len = .dead ∨ ∃ b', o = some b' ∧ SubQ ρ (aB L len) b' := by
  match len with
  | 0 => exact .inl rfl
  | 1 => exact .inr ⟨_, ho, SubQ.ofL rfl hb (.inl rfl)⟩
  | n + 2 => exact .inr ⟨_, ho, SubQ.ofL rfl hb (.inr rfl)⟩
theorem aB_at {L : List V} {len : Nat} (h : 0 < len) : ∃ g, aB L len = .cells (ofL L 0) true g := by
  match len with
  | 1 => exact ⟨_, rfl⟩
  | n + 2 => exact ⟨_, rfl⟩
/-- Its last element becomes another one. -/
theorem aB_set {ρ : Nat → Nat} {d d' : List UInt8} {ds : List (List UInt8)} {o : Nat} {g : Option (Nat × Nat)} (ho : o = ds.length) (hg : aB (gR eT (d :: ds)) (d :: ds).length = .cells (ofL (gR eT (d :: ds)) 0) true g) :
    SubQ ρ (aB (gR eT (d' :: ds)) (d' :: ds).length) (.cells ((ofL (gR eT (d :: ds)) 0).set o (tx d')) true g) := by
  have key : ∀ k v, (ofL (gR eT (d' :: ds)) 0).get k = some v → ((ofL (gR eT (d :: ds)) 0).set o (tx d')).get k = some v ∧ bare0 v = true := fun k v hk => by
    rw [get_ofL, if_pos (Nat.zero_le _), Nat.sub_zero] at hk
    refine ⟨?_, gT_bare _ v (List.mem_of_getElem? hk)⟩
    have hlen : (gR eT ds).length = ds.length := by rw [gT_len, Nat.mul_one]
    have hk' : (gR eT ds ++ [tx d'])[k]? = some v := hk
    rw [Tr.get_set]
    by_cases he : k = o
    · rw [if_pos he]
      rw [he, ho, List.getElem?_append_right (by omega), hlen, Nat.sub_self] at hk'
      exact hk'
    · rw [if_neg he]
      have hlt : k < ds.length := by
        have := (List.getElem?_eq_some_iff.1 hk').1
        rw [List.length_append, hlen, List.length_singleton] at this
        omega
      rw [List.getElem?_append_left (by omega)] at hk'
      refine get_ofL0 ?_
      show (gR eT ds ++ [tx d])[k]? = _
      rw [List.getElem?_append_left (by omega)]
      exact hk'
  cases ds with
  | nil => exact SubQ.bare key id (.inl rfl)
  | cons e ds =>
    have hg' : some (1, ((e :: ds).length + 1) * 1) = g := by
      have h1 : Blk.cells (ofL (gR eT (d :: e :: ds)) 0) true (some (1, (ds.length + 2) * 1)) = .cells (ofL (gR eT (d :: e :: ds)) 0) true g := hg
      injection h1
    subst hg'
    exact SubQ.bare key id (.inr rfl)
theorem aFz {n0 i : Nat} {l : List (List UInt8)} {news : List Blk} (hn : news[i]? = some (aB (gR eT l) l.length)) (h0 : 0 < l.length) {g : Nat → List V} (hg : ∀ j x, l.reverse[j]? = some x → g j = eT x) : Fz n0 news (aV (n0 + i) l.length) (.rsl false 1 l.length g) := by
  have hx : ∀ j, j < l.length → ∃ y, l.reverse[j]? = some y := fun j hj => by
    have : j < l.reverse.length := by rw [List.length_reverse]; exact hj
    exact ⟨_, List.getElem?_eq_getElem this⟩
  have key : ∀ j, j < l.length → ∀ k v, (g j)[k]? = some v → (ofL (gR eT l) 0).get (0 + j * 1 + k) = some v ∧ bare0 v = true := fun j hj k v hk => by
    obtain ⟨y, hy⟩ := hx j hj
    rw [hg j y hy] at hk
    refine ⟨get_ofL0 ?_, eT_bare y v (List.mem_of_getElem? hk)⟩
    rw [Nat.zero_add]
    exact gR_at eT_len hy hk
  have hl : ∀ j, j < l.length → (g j).length = 1 := fun j hj => by
    obtain ⟨y, hy⟩ := hx j hj
    rw [hg j y hy]; rfl
  match l, h0 with
  | [x], _ => exact .sl (i := i) rfl hn (fun h => by cases h) (Nat.le_refl _) hl key
  | x :: y :: l, _ => exact .sl (i := i) rfl hn (fun h => by cases h) (Nat.le_refl _) hl key

/-- The same, where the first one stays where it was built. -/
def aW (b c : Nat) : Nat → V
  | 0 => .nils
  | 1 => .sl b 0 1 1 true
  | n + 2 => .sl c 0 (n + 2) (n + 2) false
noncomputable def aC (L : List V) : Nat → Blk
  | 0 => .dead
  | 1 => .dead
  | n + 2 => .cells (ofL L 0) true (some (1, (n + 2) * 1))
theorem aW_lt {b c n : Nat} (h : Nat.blt b n = true) (h' : Nat.blt c n = true) : ∀ i, ltV n (aW b c i) = true
  | 0 => rfl
  | 1 => h
  | _ + 2 => h'
theorem aW_ren {ρ : Nat → Nat} {b c n : Nat} (h : ρ b = b) (h' : ρ c = c) : some (aW b c n) = some (renV ρ (aW b c n)) := by
  match n with
  | 0 => rfl
  | 1 => show _ = some (V.sl (ρ b) 0 1 1 true); rw [h]; rfl
  | n + 2 => show _ = some (V.sl (ρ c) 0 (n + 2) (n + 2) false); rw [h']; rfl
theorem aC_lt {n : Nat} {L : List V} (hb : ∀ v ∈ L, bare0 v = true) : ∀ i, ltB n (aC L i)
  | 0 => trivial
  | 1 => trivial
  | _ + 2 => ltB_ofLb hb
theorem aC_av {Y : List Nat} {len : Nat} {L : List V} (hb : ∀ v ∈ L, bare0 v = true) : avB Y (aC L len) := by
  match len with
  | 0 => trivial
  | 1 => trivial
  | n + 2 => exact avB_ofLb hb
theorem aC_keep {ρ : Nat → Nat} {len : Nat} {L : List V} {o : Option Blk} (hb : ∀ v ∈ L, bare0 v = true) (ho : o = some (aC L len)) : aC L len = .dead ∨ ∃ b', o = some b' ∧ SubQ ρ (aC L len) b' := by
  match len with
  | 0 => exact .inl rfl
  | 1 => exact .inl rfl
  | n + 2 => exact .inr ⟨_, ho, SubQ.ofL rfl hb (.inr rfl)⟩
/-- The last element becomes another one. -/
theorem aC_set {ρ : Nat → Nat} {d d' e : List UInt8} {ds : List (List UInt8)} {o : Nat} (ho : o = ds.length + 1) :
    SubQ ρ (aC (gR eT (d' :: e :: ds)) (d' :: e :: ds).length) (.cells ((ofL (gR eT (d :: e :: ds)) 0).set o (tx d')) true (some (1, (ds.length + 2) * 1))) :=
  aB_set (d := d) (d' := d') (ds := e :: ds) ho rfl
def lstD : List (List UInt8) → List UInt8
  | [] => []
  | [d] => d
  | _ :: e :: ds => lstD (e :: ds)
end Go.Proofs.Q

namespace Go.Proofs.Q
open Go.As
set_option maxRecDepth 20000
set_option linter.unusedVariables false
set_option linter.unusedSimpArgs false
set_option maxHeartbeats 8000000 in
theorem back_new (h : H) (T : List UInt8) (n : Nat) (s : Nat → Int) (k : Nat) (A : Nat → List UInt8) (x1 x2 : Bool) (h1 : ckM T.length n s k A = 0)
    (l : List Int) (m : List (List UInt8)) (hlm : (l, m) = bAdds (bkF T (stF n s) A T.length) (A T.length).length) :
    CallOk Try.prog 58 [pageV n s k A x1 x2 T] h (.agg [grV (h.n + 0) l.length, aV (h.n + (gNew 1 eI l).length) m.length]) (addBs h (gNew 1 eI l ++ [aB (gR eT m) m.length])) := by
  obtain ⟨a1, a2, a3, a4⟩ := ckM_n h1
  have hn := st_le a4
  have kH := fun h' (i : Nat) => leaves_ok h' n s k A x1 x2 T i (by omega)
  have e1 : ∀ i : Nat, hasB n s i = stF n s i := fun i => rfl
  simp only [e1] at kH
  have ha : ∀ i, i < k → (A i).length ≤ 12 := fun i hi => of_decide_eq_true (allF_iff.1 a3 i hi)
  have hmk : ∀ i, i < k → (mkF T (stF n s) A i).length ≤ 400 := fun i hi => by
    have q1 := rdF_le (T := T) (st := stF n s) (A := A) (i := i)
    have q2 := lnF_le a3 hi
    rw [← mkF_rd, List.length_append] at q1
    omega
  have hb := fun i (hi : i ≤ T.length) => bkF_len (T := T) (st := stF n s) (A := A) hi
  generalize stF n s = P at *
  have hb0 : bkF T P A 0 = ([], [[]]) := rfl
  have hbs : ∀ i, bkF T P A (i + 1) = if P i = true then bStr (bAdds (bkF T P A i) (A i).length) (chr T i) else bLeft (bAdds (bkF T P A i) (A i).length) := fun i => rfl
  generalize mkF T P A = M at *
  generalize bkF T P A = K at *
  clear h1 a3 a4 e1
  have hm0 : 0 < m.length := by
    have e : m = (bAdds (K T.length) (A T.length).length).2 := congrArg Prod.snd hlm
    rw [e, (bAdds_len _ _).1]
    have := (hb T.length (Nat.le_refl _)).1
    omega
  refine CallOk.runN Try.func58 rfl rfl (argsC := [pageV n s k A x1 x2 T]) (fun N => .agg [grV (N + 0) l.length, aV (N + (gNew 1 eI l).length) m.length]) (fun _ => gNew 1 eI l ++ [aB (gR eT m) m.length]) (Nat.le_of_ble_eq_true rfl) [] (.cons (.lt0 rfl) .nil) (viewM0 h)
    (ShV.agg (.cons (grSh _ _ _ 1 0 _ eI l (by simp)) (.cons ?_ .nil))) rfl
    (fun i b hi => ?_) (WpR.of_vc ?_)
  · match m, hm0 with
    | [x], _ => exact .sl (i := (gNew 1 eI l).length) (by simp) rfl rfl
    | x :: y :: m, _ => exact .sl (i := (gNew 1 eI l).length) (by simp) rfl rfl
  · by_cases hlt : i < (gNew 1 eI l).length
    · rw [List.getElem?_append_left hlt] at hi
      exact ⟨b, by rw [List.getElem?_append_left hlt]; exact hi, grBs eI_bare hi⟩
    · rw [List.getElem?_append_right (by omega)] at hi
      refine ⟨b, by rw [List.getElem?_append_right (by omega)]; exact hi, ?_⟩
      match hh : i - (gNew 1 eI l).length with
      | 0 =>
        rw [hh] at hi; have e := Option.some.inj hi; subst e
        obtain ⟨g, hg⟩ := aB_at (L := gR eT m) hm0
        rw [hg]
        exact ⟨rfl, .bare (ofL_bare (gT_bare m))⟩
      | j + 1 => rw [hh] at hi; simp at hi
  (conv => whnf); (repeat' (first | ((with_reducible refine ifb_mk (fun hc => ?_) (fun hc => ?_)) <;> ((try simp only [decide_eq_true_eq, decide_eq_false_iff_not, Bool.not_eq_true', Bool.not_eq_false', Int.not_lt, Int.not_le, ne_eq, Decidable.not_not, beq_iff_eq, List.cons.injEq, and_true] at hc); (first | (exfalso; omega) | exact absurd True.intro hc | conv => whnf))) | ((with_reducible refine And.intro True.intro ?_); conv => whnf) | ((with_reducible refine CallX.all (f := 84) ?_); refine CallW.inline Try.func84 rfl rfl (Nat.le_of_ble_eq_true rfl) (WpR.of_vc ?_); conv => whnf) | ((with_reducible refine RangeX.all ?_); conv => whnf) | ((with_reducible refine CallW.inline (f := 98) Try.func98 rfl rfl (Nat.le_of_ble_eq_true rfl) (WpR.of_vc ?_)); conv => whnf) | ((with_reducible refine And.intro ?hh ?_); (case hh => exact condA); conv => whnf) | fail))
  have hB3 : ∀ i j, ∀ n, Nat.blt 8 n = true → ltB n (.cells (ofL [grV 7 i, aW 2 8 j] 0) true none) := fun i j n hn => ltB_ofL (by
    have h7 : Nat.blt 7 n = true := by rw [Nat.blt_eq] at hn ⊢; omega
    have h2 : Nat.blt 2 n = true := by rw [Nat.blt_eq] at hn ⊢; omega
    intro v hv
    rcases List.mem_cons.1 hv with rfl | hv
    · exact grV_lt h7 _
    · rw [List.mem_singleton.1 hv]; exact aW_lt h2 hn _)
  have hMap : ∀ i j, ltB 9 (.cells (ofL [grV 7 i, aW 2 8 j] 0) true none) := fun i j => hB3 i j 9 rfl
  have hMapA : ∀ i j, ltB 1000 (.cells (ofL [grV 7 i, aW 2 8 j] 0) true none) := fun i j => hB3 i j 1000 rfl
  have hMap2 : ∀ l : List Int, ltB 9 (grB 1 (gR eI l) l.length) := fun l => grB_lt (gI_bare l) _
  have hMapB : ∀ l : List (List UInt8), ltB 9 (aC (gR eT l) l.length) := fun l => aC_lt (gT_bare l) _
  refine WpR.loopA (ι := Nat × BS) [7, 8] [0, 1, 9, 10] [2, 3, 7, 8] [] 9 (fun p => [(11, .int .i64 p.1)]) (fun p => [(2, .cells (ofL [tx (lstD p.2.2)] 0) true none), (3, .cells (ofL [grV 7 p.2.1.length, aW 2 8 p.2.2.length] 0) true none), (7, grB 1 (gR eI p.2.1) p.2.1.length), (8, aC (gR eT p.2.2) p.2.2.length)]) (fun p => k - p.1) (fun p => p.1 < k ∧ p.2 = K p.1) ?_ ((0, ([], [[]]))) (⟨by omega, hb0.symm⟩) [] Back.auto
  rintro ⟨i, x⟩ ⟨j1, j2⟩
  dsimp only at j1 j2
  refine WpR.of_vc ?_
  have hai := ha i j1
  obtain ⟨hb1, hb2, hb3⟩ := hb i (by omega)
  rw [← j2] at hb1 hb2 hb3
  have hmi := hmk i j1
  (conv => whnf); (repeat' (first | ((with_reducible refine ifb_mk (fun hc => ?_) (fun hc => ?_)) <;> ((try simp only [decide_eq_true_eq, decide_eq_false_iff_not, Bool.not_eq_true', Bool.not_eq_false', Int.not_lt, Int.not_le, ne_eq, Decidable.not_not, beq_iff_eq, List.cons.injEq, and_true] at hc); (first | (exfalso; omega) | exact absurd True.intro hc | conv => whnf))) | ((with_reducible refine And.intro True.intro ?_); conv => whnf) | ((with_reducible refine grd_and ?_); refine And.intro (j1) ?_; conv => whnf) | ((with_reducible refine And.intro ?hh ?_); (case hh => exact condA); conv => whnf) | fail))
  refine WpR.loopA (ι := Nat × BS) [7, 8] [0, 1, 3, 4, 9, 10, 11, 17] [2, 3, 7, 8] [] 9 (fun p => [(18, .int .i64 p.1)]) (fun p => [(2, .cells (ofL [tx (lstD p.2.2)] 0) true none), (3, .cells (ofL [grV 7 p.2.1.length, aW 2 8 p.2.2.length] 0) true none), (7, grB 1 (gR eI p.2.1) p.2.1.length), (8, aC (gR eT p.2.2) p.2.2.length)]) (fun p => (A i).length - p.1) (fun p => p.1 ≤ (A i).length ∧ p.2 = bAdds x p.1) ?_ ((0, x)) (⟨by omega, rfl⟩) [] Back.auto
  rintro ⟨j, y⟩ ⟨g1, g2⟩
  dsimp only at g1 g2
  refine WpR.of_vc ?_
  obtain ⟨hl1, hl2⟩ := bAdds_len x j
  have hl3 := bAdds_mem x hb3 j
  rw [← g2] at hl1 hl2 hl3
  have hs : bAdds x (j + 1) = bAdd y := by show bAdd (bAdds x j) = _; rw [← g2]
  obtain ⟨S, D⟩ := y
  dsimp only at hl1 hl2 hl3
  have hgl : ∀ (d : List UInt8) (ds : List (List UInt8)) (o : Nat), o = ds.length → (ofL (gR eT (d :: ds)) 0).get o = some (tx d) := fun d ds o ho => by
    refine get_ofL0 ?_
    show (gR eT ds ++ [tx d])[o]? = _
    have hlen : (gR eT ds).length = ds.length := by rw [gT_len, Nat.mul_one]
    rw [List.getElem?_append_right (by omega), hlen, ho, Nat.sub_self]; rfl
  by_cases hj : j < (A i).length
  · match D, hl1 with
    | [], hl1 => rw [List.length_nil] at hl1; omega
    | [d], hl1 =>
      (conv => whnf); (repeat' (first | ((with_reducible refine ifb_mk (fun hc => ?_) (fun hc => ?_)) <;> ((try simp only [decide_eq_true_eq, decide_eq_false_iff_not, Bool.not_eq_true', Bool.not_eq_false', Int.not_lt, Int.not_le, ne_eq, Decidable.not_not, beq_iff_eq, List.cons.injEq, and_true] at hc); (first | (exfalso; omega) | exact absurd True.intro hc | conv => whnf))) | ((with_reducible refine And.intro True.intro ?_); conv => whnf) | ((with_reducible refine grd_and ?_); refine And.intro (hj) ?_; conv => whnf) | ((with_reducible refine YldX.all ?_); refine YldW.inline rfl rfl rfl (WpR.of_vc ?_); conv => whnf) | ((with_reducible refine And.intro ?hh ?_); (case hh => exact condA); conv => whnf) | fail))
      refine ⟨_, rfl, rfl, WpR.of_vc ?_⟩
      (conv => whnf); (repeat' (first | ((with_reducible refine ifb_mk (fun hc => ?_) (fun hc => ?_)) <;> ((try simp only [decide_eq_true_eq, decide_eq_false_iff_not, Bool.not_eq_true', Bool.not_eq_false', Int.not_lt, Int.not_le, ne_eq, Decidable.not_not, beq_iff_eq, List.cons.injEq, and_true] at hc); (first | (exfalso; omega) | exact absurd True.intro hc | conv => whnf))) | ((with_reducible refine And.intro True.intro ?_); conv => whnf) | (refine AppX.gr (n := 1) (L := gR eI S) (len := S.length) rfl rfl (gI_len S) (gI_one S) Nat.zero_lt_one (by omega) ?_; conv => whnf) | (refine AppX.copy (n := 1) (L := [tx d]) rfl rfl rfl Nat.zero_lt_one (by omega) ?_; conv => whnf) | ((with_reducible refine And.intro ?hh ?_); (case hh => exact condA); conv => whnf) | fail))
      refine ⟨_, _, rfl, ?_⟩
      (conv => whnf); (repeat' (first | ((with_reducible refine ifb_mk (fun hc => ?_) (fun hc => ?_)) <;> ((try simp only [decide_eq_true_eq, decide_eq_false_iff_not, Bool.not_eq_true', Bool.not_eq_false', Int.not_lt, Int.not_le, ne_eq, Decidable.not_not, beq_iff_eq, List.cons.injEq, and_true] at hc); (first | (exfalso; omega) | exact absurd True.intro hc | conv => whnf))) | ((with_reducible refine And.intro True.intro ?_); conv => whnf) | ((with_reducible refine And.intro ?hh ?_); (case hh => exact condA); conv => whnf) | fail))
      exact ⟨(j + 1, bAdd (S, [d])), [(7, 11), (8, 13)], by dsimp only; omega, ⟨by dsimp only; omega, hs.symm⟩, Back.auto⟩
    | d :: e :: ds, hl1 =>
      rw [List.length_cons, List.length_cons] at hl1
      (conv => whnf); (repeat' (first | ((with_reducible refine ifb_mk (fun hc => ?_) (fun hc => ?_)) <;> ((try simp only [decide_eq_true_eq, decide_eq_false_iff_not, Bool.not_eq_true', Bool.not_eq_false', Int.not_lt, Int.not_le, ne_eq, Decidable.not_not, beq_iff_eq, List.cons.injEq, and_true] at hc); (first | (exfalso; omega) | exact absurd True.intro hc | conv => whnf))) | ((with_reducible refine And.intro True.intro ?_); conv => whnf) | ((with_reducible refine grd_and ?_); refine And.intro (hj) ?_; conv => whnf) | ((with_reducible refine YldX.all ?_); refine YldW.inline rfl rfl rfl (WpR.of_vc ?_); conv => whnf) | ((with_reducible refine And.intro ?hh ?_); (case hh => exact condA); conv => whnf) | fail))
      refine ⟨_, rfl, rfl, WpR.of_vc ?_⟩
      (conv => whnf); (repeat' (first | ((with_reducible refine ifb_mk (fun hc => ?_) (fun hc => ?_)) <;> ((try simp only [decide_eq_true_eq, decide_eq_false_iff_not, Bool.not_eq_true', Bool.not_eq_false', Int.not_lt, Int.not_le, ne_eq, Decidable.not_not, beq_iff_eq, List.cons.injEq, and_true] at hc); (first | (exfalso; omega) | exact absurd True.intro hc | conv => whnf))) | ((with_reducible refine And.intro True.intro ?_); conv => whnf) | (refine AppX.gr (n := 1) (L := gR eI S) (len := S.length) rfl rfl (gI_len S) (gI_one S) Nat.zero_lt_one (by omega) ?_; conv => whnf) | (refine AppX.own (n := 1) (L := gR eT (d :: e :: ds)) (len := ds.length + 2) rfl (gT_len (d :: e :: ds)) (gT_one _) Nat.zero_lt_one (by omega) ?_; conv => whnf) | ((with_reducible refine And.intro ?hh ?_); (case hh => exact condA); conv => whnf) | fail))
      refine ⟨_, _, rfl, ?_⟩
      (conv => whnf); (repeat' (first | ((with_reducible refine ifb_mk (fun hc => ?_) (fun hc => ?_)) <;> ((try simp only [decide_eq_true_eq, decide_eq_false_iff_not, Bool.not_eq_true', Bool.not_eq_false', Int.not_lt, Int.not_le, ne_eq, Decidable.not_not, beq_iff_eq, List.cons.injEq, and_true] at hc); (first | (exfalso; omega) | exact absurd True.intro hc | conv => whnf))) | ((with_reducible refine And.intro True.intro ?_); conv => whnf) | ((with_reducible refine And.intro ?hh ?_); (case hh => exact condA); conv => whnf) | fail))
      exact ⟨(j + 1, bAdd (S, d :: e :: ds)), [(7, 11), (8, 13)], by dsimp only; omega, ⟨by dsimp only; omega, hs.symm⟩, Back.auto⟩
  · have ej : j = (A i).length := by omega
    subst ej
    have hbi := hbs i
    rw [← j2, ← g2] at hbi
    have hci : ((T.drop i).take (i + 1 - i)).length ≤ 1 := chr_len T i
    by_cases hiT : i = T.length
    · have elm : l = S ∧ m = D := by
        rw [hiT] at j2 g2
        rw [← j2, ← g2] at hlm
        exact ⟨congrArg Prod.fst hlm, congrArg Prod.snd hlm⟩
      obtain ⟨rfl, rfl⟩ := elm
      match m, hm0 with
      | [d], _ =>
        have hB2 : ∀ ρ, SubQ ρ (aB (gR eT [d]) [d].length) (.cells (ofL [tx (lstD [d])] 0) true none) := fun ρ => SubQ.ofL rfl (gT_bare [d]) (.inl rfl)
        cases l with
        | nil =>
          (conv => whnf); (repeat' (first | ((with_reducible refine ifb_mk (fun hc => ?_) (fun hc => ?_)) <;> ((try simp only [decide_eq_true_eq, decide_eq_false_iff_not, Bool.not_eq_true', Bool.not_eq_false', Int.not_lt, Int.not_le, ne_eq, Decidable.not_not, beq_iff_eq, List.cons.injEq, and_true] at hc); (first | (exfalso; omega) | exact absurd True.intro hc | conv => whnf))) | ((with_reducible refine And.intro True.intro ?_); conv => whnf) | ((with_reducible refine grd_and ?_); refine And.intro (hj) ?_; conv => whnf) | ((with_reducible refine And.intro ?hh ?_); (case hh => exact condA); conv => whnf) | fail))
          all_goals first | (exfalso; omega) | exact ⟨[2], rfl, rfl, rfl, ⟨⟨_, rfl, rfl, hB2 _⟩, aB_lt (gT_bare _) _, rfl, trivial⟩, trivs⟩
        | cons y l =>
          (conv => whnf); (repeat' (first | ((with_reducible refine ifb_mk (fun hc => ?_) (fun hc => ?_)) <;> ((try simp only [decide_eq_true_eq, decide_eq_false_iff_not, Bool.not_eq_true', Bool.not_eq_false', Int.not_lt, Int.not_le, ne_eq, Decidable.not_not, beq_iff_eq, List.cons.injEq, and_true] at hc); (first | (exfalso; omega) | exact absurd True.intro hc | conv => whnf))) | ((with_reducible refine And.intro True.intro ?_); conv => whnf) | ((with_reducible refine grd_and ?_); refine And.intro (hj) ?_; conv => whnf) | ((with_reducible refine And.intro ?hh ?_); (case hh => exact condA); conv => whnf) | fail))
          all_goals first | (exfalso; omega) | exact ⟨[7, 2], rfl, rfl, rfl, ⟨⟨_, rfl, rfl, SubQ.ofL rfl (gI_bare (y :: l)) (.inr rfl)⟩, ltB_ofLb (gI_bare (y :: l)), rfl, ⟨_, rfl, rfl, hB2 _⟩, aB_lt (gT_bare _) _, rfl, trivial⟩, trivs⟩
      | d :: e :: ds, _ =>
        have hB2 : ∀ ρ, SubQ ρ (aB (gR eT (d :: e :: ds)) (d :: e :: ds).length) (aC (gR eT (d :: e :: ds)) (d :: e :: ds).length) := fun ρ => SubQ.ofL rfl (gT_bare (d :: e :: ds)) (.inr rfl)
        cases l with
        | nil =>
          (conv => whnf); (repeat' (first | ((with_reducible refine ifb_mk (fun hc => ?_) (fun hc => ?_)) <;> ((try simp only [decide_eq_true_eq, decide_eq_false_iff_not, Bool.not_eq_true', Bool.not_eq_false', Int.not_lt, Int.not_le, ne_eq, Decidable.not_not, beq_iff_eq, List.cons.injEq, and_true] at hc); (first | (exfalso; omega) | exact absurd True.intro hc | conv => whnf))) | ((with_reducible refine And.intro True.intro ?_); conv => whnf) | ((with_reducible refine grd_and ?_); refine And.intro (hj) ?_; conv => whnf) | ((with_reducible refine And.intro ?hh ?_); (case hh => exact condA); conv => whnf) | fail))
          all_goals first | (exfalso; omega) | exact ⟨[8], rfl, rfl, rfl, ⟨⟨_, rfl, rfl, hB2 _⟩, aB_lt (gT_bare _) _, rfl, trivial⟩, trivs⟩
        | cons y l =>
          (conv => whnf); (repeat' (first | ((with_reducible refine ifb_mk (fun hc => ?_) (fun hc => ?_)) <;> ((try simp only [decide_eq_true_eq, decide_eq_false_iff_not, Bool.not_eq_true', Bool.not_eq_false', Int.not_lt, Int.not_le, ne_eq, Decidable.not_not, beq_iff_eq, List.cons.injEq, and_true] at hc); (first | (exfalso; omega) | exact absurd True.intro hc | conv => whnf))) | ((with_reducible refine And.intro True.intro ?_); conv => whnf) | ((with_reducible refine grd_and ?_); refine And.intro (hj) ?_; conv => whnf) | ((with_reducible refine And.intro ?hh ?_); (case hh => exact condA); conv => whnf) | fail))
          all_goals first | (exfalso; omega) | exact ⟨[7, 8], rfl, rfl, rfl, ⟨⟨_, rfl, rfl, SubQ.ofL rfl (gI_bare (y :: l)) (.inr rfl)⟩, ltB_ofLb (gI_bare (y :: l)), rfl, ⟨_, rfl, rfl, hB2 _⟩, aB_lt (gT_bare _) _, rfl, trivial⟩, trivs⟩
    · cases hz : P i with
      | true =>
        have kH3 := fun h' => (hz ▸ kH h' i)
        rw [hz, if_pos rfl] at hbi
        match D, hl1 with
        | [], hl1 => rw [List.length_nil] at hl1; omega
        | [d], hl1 =>
          have hd := hl3 d (List.mem_cons_self ..)
          (conv => whnf); (repeat' (first | ((with_reducible refine ifb_mk (fun hc => ?_) (fun hc => ?_)) <;> ((try simp only [decide_eq_true_eq, decide_eq_false_iff_not, Bool.not_eq_true', Bool.not_eq_false', Int.not_lt, Int.not_le, ne_eq, Decidable.not_not, beq_iff_eq, List.cons.injEq, and_true] at hc); (first | (exfalso; omega) | exact absurd True.intro hc | conv => whnf))) | ((with_reducible refine And.intro True.intro ?_); conv => whnf) | ((with_reducible refine grd_and ?_); refine And.intro (hj) ?_; conv => whnf) | ((with_reducible refine CallX.all ?_); refine CallW.of_ok (kH3 _) ?_; conv => whnf) | ((with_reducible refine YldX.all ?_); refine YldW.inline rfl rfl rfl (WpR.of_vc ?_); conv => whnf) | ((with_reducible refine And.intro ?hh ?_); (case hh => exact condA); conv => whnf) | fail))
          all_goals first | (exfalso; omega) | skip
          refine ⟨_, rfl, rfl, WpR.of_vc ?_⟩
          (conv => whnf); (repeat' (first | ((with_reducible refine ifb_mk (fun hc => ?_) (fun hc => ?_)) <;> ((try simp only [decide_eq_true_eq, decide_eq_false_iff_not, Bool.not_eq_true', Bool.not_eq_false', Int.not_lt, Int.not_le, ne_eq, Decidable.not_not, beq_iff_eq, List.cons.injEq, and_true] at hc); (first | (exfalso; omega) | exact absurd True.intro hc | conv => whnf))) | ((with_reducible refine And.intro True.intro ?_); conv => whnf) | ((with_reducible refine WpR.draw (id := 7) mixed [0, 1, 2, 3, 4, 5, 6, 7, 8, 9] [0, 1, 0, 7, 15, 0, 32, 127, 255, 511] ?hh ?_); (case hh => kernel_rfl); conv => whnf) | ((with_reducible refine grd_and ?_); refine And.intro ((by show d.length + (List.take (i + 1 - i) (List.drop i T)).length ≤ 9223372036854775807; omega)) ?_; conv => whnf) | ((with_reducible refine And.intro ?hh ?_); (case hh => exact condA); conv => whnf) | fail))
          refine ⟨_, _, rfl, ?_⟩
          (conv => whnf); (repeat' (first | ((with_reducible refine ifb_mk (fun hc => ?_) (fun hc => ?_)) <;> ((try simp only [decide_eq_true_eq, decide_eq_false_iff_not, Bool.not_eq_true', Bool.not_eq_false', Int.not_lt, Int.not_le, ne_eq, Decidable.not_not, beq_iff_eq, List.cons.injEq, and_true] at hc); (first | (exfalso; omega) | exact absurd True.intro hc | conv => whnf))) | ((with_reducible refine And.intro True.intro ?_); conv => whnf) | ((with_reducible refine And.intro ?hh ?_); (case hh => exact condA); conv => whnf) | fail))
          exact ⟨(i + 1, bStr (S, [d]) (chr T i)), [], by dsimp only; omega, ⟨by dsimp only; omega, hbi.symm⟩, Back.auto⟩
        | d :: e :: ds, hl1 =>
          rw [List.length_cons, List.length_cons] at hl1
          have hd := hl3 d (List.mem_cons_self ..)
          have hg1 := hgl d (e :: ds) (0 + (((ds.length + 2 : Nat) : Int) - 1).toNat * 1) (by rw [List.length_cons]; omega)
          have hgs := fun ρ => aC_set (ρ := ρ) (d := d) (d' := d ++ chr T i) (e := e) (ds := ds) (o := 0 + (((ds.length + 2 : Nat) : Int) - 1).toNat * 1) (by omega)
          (conv => whnf); (repeat' (first | ((with_reducible refine ifb_mk (fun hc => ?_) (fun hc => ?_)) <;> ((try simp only [decide_eq_true_eq, decide_eq_false_iff_not, Bool.not_eq_true', Bool.not_eq_false', Int.not_lt, Int.not_le, ne_eq, Decidable.not_not, beq_iff_eq, List.cons.injEq, and_true] at hc); (first | (exfalso; omega) | exact absurd True.intro hc | conv => whnf))) | ((with_reducible refine And.intro True.intro ?_); conv => whnf) | ((with_reducible refine grd_and ?_); refine And.intro (hj) ?_; conv => whnf) | ((with_reducible refine CallX.all ?_); refine CallW.of_ok (kH3 _) ?_; conv => whnf) | ((with_reducible refine YldX.all ?_); refine YldW.inline rfl rfl rfl (WpR.of_vc ?_); conv => whnf) | ((with_reducible refine And.intro ?hh ?_); (case hh => exact condA); conv => whnf) | fail))
          all_goals first | (exfalso; omega) | skip
          refine ⟨_, rfl, rfl, WpR.of_vc ?_⟩
          (conv => whnf); (repeat' (first | ((with_reducible refine ifb_mk (fun hc => ?_) (fun hc => ?_)) <;> ((try simp only [decide_eq_true_eq, decide_eq_false_iff_not, Bool.not_eq_true', Bool.not_eq_false', Int.not_lt, Int.not_le, ne_eq, Decidable.not_not, beq_iff_eq, List.cons.injEq, and_true] at hc); (first | (exfalso; omega) | exact absurd True.intro hc | conv => whnf))) | ((with_reducible refine And.intro True.intro ?_); conv => whnf) | ((with_reducible refine WpR.draw (id := 7) mixed [0, 1, 2, 3, 4, 5, 6, 7, 8, 9] [0, 1, 0, 7, 15, 0, 32, 127, 255, 511] ?hh ?_); (case hh => kernel_rfl); conv => whnf) | ((with_reducible refine grd_and ?_); refine And.intro ((by show d.length + (List.take (i + 1 - i) (List.drop i T)).length ≤ 9223372036854775807; omega)) ?_; conv => whnf) | ((with_reducible refine grd_get ?_); refine som_mk (a := ?_) ?hh ?_; (case hh => exact hg1); conv => whnf) | ((with_reducible refine grd_putN ?_); refine som_mk (a := ?_) ?hh ?_; (case hh => exact putN_one hg1); conv => whnf) | ((with_reducible refine And.intro ?hh ?_); (case hh => exact condA); conv => whnf) | fail))
          refine ⟨_, _, rfl, ?_⟩
          (conv => whnf); (repeat' (first | ((with_reducible refine ifb_mk (fun hc => ?_) (fun hc => ?_)) <;> ((try simp only [decide_eq_true_eq, decide_eq_false_iff_not, Bool.not_eq_true', Bool.not_eq_false', Int.not_lt, Int.not_le, ne_eq, Decidable.not_not, beq_iff_eq, List.cons.injEq, and_true] at hc); (first | (exfalso; omega) | exact absurd True.intro hc | conv => whnf))) | ((with_reducible refine And.intro True.intro ?_); conv => whnf) | ((with_reducible refine And.intro ?hh ?_); (case hh => exact condA); conv => whnf) | fail))
          exact ⟨(i + 1, bStr (S, d :: e :: ds) (chr T i)), [], by dsimp only; omega, ⟨by dsimp only; omega, hbi.symm⟩, ⟨rfl, rfl, (by (repeat' (first | exact True.intro | rfl | exact gr_ren rfl | exact aV_ren rfl | exact aW_ren rfl rfl | refine And.intro ?_ ?_))), (by (repeat' (first | exact True.intro | rfl | exact gr_ren rfl | exact aV_ren rfl | exact aW_ren rfl rfl | refine And.intro ?_ ?_))), (by (repeat' (first | exact True.intro | rfl | exact gr_ren rfl | exact aV_ren rfl | exact aW_ren rfl rfl | refine And.intro ?_ ?_))), (by (repeat' (first | exact True.intro | exact Or.inl rfl | exact gr_keep (by first | exact gI_bare _ | exact gT_bare _ | exact gP_bare _) rfl | exact aB_keep (gT_bare _) rfl | exact aC_keep (gT_bare _) rfl | (refine Or.inr ⟨_, rfl, ?_⟩; exact hgs _) | refine And.intro ?_ ?_ | refine Or.inr ⟨_, rfl, ?_⟩ | exact SubQ.same (n := 1000) (Y := []) (fun _ _ _ => rfl) (by first | exact True.intro | exact ltB_all rfl | exact ltB_ofLb (by first | exact bare0_ints | assumption | exact gI_bare _ | exact gT_bare _ | exact gP_bare _ | exact bVs_bare | exact iVs_bare | exact mVs_bare | (intro v hv; (repeat (rcases List.mem_cons.1 hv with rfl | hv; exact rfl)); exact absurd hv (List.not_mem_nil))) | exact ltB_loop rfl rfl | exact hMap _ | exact hMap _ _ | exact hMap2 _ | exact hMap2 _ _ | exact hMapA _ | exact hMapA _ _ | exact hMapB _ | exact hMapB _ _ | exact hMapC _ | exact hMapC _ _ | exact hMapD _ | exact hMapD _ _ | exact grB_lt (by first | exact bare0_ints | assumption | exact gI_bare _ | exact gT_bare _ | exact gP_bare _ | exact bVs_bare | exact iVs_bare | exact mVs_bare | (intro v hv; (repeat (rcases List.mem_cons.1 hv with rfl | hv; exact rfl)); exact absurd hv (List.not_mem_nil))) _ | exact ltB_encL | exact ltB_map0 | assumption) (avB_nil _) rfl | exact SubQ.ofL (by first | rfl | simp) (by first | exact bare0_ints | assumption | exact gI_bare _ | exact gT_bare _ | exact gP_bare _ | exact bVs_bare | exact iVs_bare | exact mVs_bare | (intro v hv; (repeat (rcases List.mem_cons.1 hv with rfl | hv; exact rfl)); exact absurd hv (List.not_mem_nil))) (by first | exact Or.inl rfl | exact Or.inr rfl) | exact SubQ.fin (by (conv => whnf); (repeat' (first | exact True.intro | rfl | exact gr_ren rfl | exact aV_ren rfl | exact aW_ren rfl rfl | refine And.intro ?_ ?_)); done) (fun h => h) (by first | exact Or.inl rfl | exact Or.inr rfl)))), rfl, rfl⟩⟩
      | false =>
        have kH3 := fun h' => (hz ▸ kH h' i)
        rw [hz, if_neg (by decide)] at hbi
        match D, hl1 with
        | [], hl1 => rw [List.length_nil] at hl1; omega
        | [d], hl1 =>
          (conv => whnf); (repeat' (first | ((with_reducible refine ifb_mk (fun hc => ?_) (fun hc => ?_)) <;> ((try simp only [decide_eq_true_eq, decide_eq_false_iff_not, Bool.not_eq_true', Bool.not_eq_false', Int.not_lt, Int.not_le, ne_eq, Decidable.not_not, beq_iff_eq, List.cons.injEq, and_true] at hc); (first | (exfalso; omega) | exact absurd True.intro hc | conv => whnf))) | ((with_reducible refine And.intro True.intro ?_); conv => whnf) | ((with_reducible refine grd_and ?_); refine And.intro (hj) ?_; conv => whnf) | ((with_reducible refine CallX.all ?_); refine CallW.of_ok (kH3 _) ?_; conv => whnf) | ((with_reducible refine YldX.all ?_); refine YldW.inline rfl rfl rfl (WpR.of_vc ?_); conv => whnf) | ((with_reducible refine And.intro ?hh ?_); (case hh => exact condA); conv => whnf) | fail))
          all_goals first | (exfalso; omega) | skip
          refine ⟨_, rfl, rfl, WpR.of_vc ?_⟩
          (conv => whnf); (repeat' (first | ((with_reducible refine ifb_mk (fun hc => ?_) (fun hc => ?_)) <;> ((try simp only [decide_eq_true_eq, decide_eq_false_iff_not, Bool.not_eq_true', Bool.not_eq_false', Int.not_lt, Int.not_le, ne_eq, Decidable.not_not, beq_iff_eq, List.cons.injEq, and_true] at hc); (first | (exfalso; omega) | exact absurd True.intro hc | conv => whnf))) | ((with_reducible refine And.intro True.intro ?_); conv => whnf) | (refine AppX.copy (n := 1) (L := [tx d]) rfl rfl rfl Nat.zero_lt_one (by omega) ?_; conv => whnf) | ((with_reducible refine And.intro ?hh ?_); (case hh => exact condA); conv => whnf) | fail))
          refine ⟨_, _, rfl, ?_⟩
          (conv => whnf); (repeat' (first | ((with_reducible refine ifb_mk (fun hc => ?_) (fun hc => ?_)) <;> ((try simp only [decide_eq_true_eq, decide_eq_false_iff_not, Bool.not_eq_true', Bool.not_eq_false', Int.not_lt, Int.not_le, ne_eq, Decidable.not_not, beq_iff_eq, List.cons.injEq, and_true] at hc); (first | (exfalso; omega) | exact absurd True.intro hc | conv => whnf))) | ((with_reducible refine And.intro True.intro ?_); conv => whnf) | ((with_reducible refine And.intro ?hh ?_); (case hh => exact condA); conv => whnf) | fail))
          exact ⟨(i + 1, bLeft (S, [d])), [(8, 11)], by dsimp only; omega, ⟨by dsimp only; omega, hbi.symm⟩, Back.auto⟩
        | d :: e :: ds, hl1 =>
          rw [List.length_cons, List.length_cons] at hl1
          (conv => whnf); (repeat' (first | ((with_reducible refine ifb_mk (fun hc => ?_) (fun hc => ?_)) <;> ((try simp only [decide_eq_true_eq, decide_eq_false_iff_not, Bool.not_eq_true', Bool.not_eq_false', Int.not_lt, Int.not_le, ne_eq, Decidable.not_not, beq_iff_eq, List.cons.injEq, and_true] at hc); (first | (exfalso; omega) | exact absurd True.intro hc | conv => whnf))) | ((with_reducible refine And.intro True.intro ?_); conv => whnf) | ((with_reducible refine grd_and ?_); refine And.intro (hj) ?_; conv => whnf) | ((with_reducible refine CallX.all ?_); refine CallW.of_ok (kH3 _) ?_; conv => whnf) | ((with_reducible refine YldX.all ?_); refine YldW.inline rfl rfl rfl (WpR.of_vc ?_); conv => whnf) | ((with_reducible refine And.intro ?hh ?_); (case hh => exact condA); conv => whnf) | fail))
          all_goals first | (exfalso; omega) | skip
          refine ⟨_, rfl, rfl, WpR.of_vc ?_⟩
          (conv => whnf); (repeat' (first | ((with_reducible refine ifb_mk (fun hc => ?_) (fun hc => ?_)) <;> ((try simp only [decide_eq_true_eq, decide_eq_false_iff_not, Bool.not_eq_true', Bool.not_eq_false', Int.not_lt, Int.not_le, ne_eq, Decidable.not_not, beq_iff_eq, List.cons.injEq, and_true] at hc); (first | (exfalso; omega) | exact absurd True.intro hc | conv => whnf))) | ((with_reducible refine And.intro True.intro ?_); conv => whnf) | (refine AppX.own (n := 1) (L := gR eT (d :: e :: ds)) (len := ds.length + 2) rfl (gT_len (d :: e :: ds)) (gT_one _) Nat.zero_lt_one (by omega) ?_; conv => whnf) | ((with_reducible refine And.intro ?hh ?_); (case hh => exact condA); conv => whnf) | fail))
          refine ⟨_, _, rfl, ?_⟩
          (conv => whnf); (repeat' (first | ((with_reducible refine ifb_mk (fun hc => ?_) (fun hc => ?_)) <;> ((try simp only [decide_eq_true_eq, decide_eq_false_iff_not, Bool.not_eq_true', Bool.not_eq_false', Int.not_lt, Int.not_le, ne_eq, Decidable.not_not, beq_iff_eq, List.cons.injEq, and_true] at hc); (first | (exfalso; omega) | exact absurd True.intro hc | conv => whnf))) | ((with_reducible refine And.intro True.intro ?_); conv => whnf) | ((with_reducible refine And.intro ?hh ?_); (case hh => exact condA); conv => whnf) | fail))
          exact ⟨(i + 1, bLeft (S, d :: e :: ds)), [(8, 11)], by dsimp only; omega, ⟨by dsimp only; omega, hbi.symm⟩, Back.auto⟩
end Go.Proofs.Q
