/- What the functions answer that the laws call, one after another (Rch). -/
import Derived.Test.YtjkgnkhbbnmgbaaAs6
import Derived.Test.YtjkgnkhbbnmgbaaBase
import Derived.Test.YtjkgnkhbbnmgbaaMv

set_option linter.unusedVariables false
namespace Go.Proofs.P
open Go.As
set_option maxRecDepth 20000
set_option linter.unusedVariables false
set_option linter.unusedSimpArgs false

/-! ### Arrays of truths are compared -/

def bVs (l : List Bool) : List V := l.map V.bool
def bVals (l : List Bool) : List Value := l.map Value.bool
theorem bVs_bare {l : List Bool} : ∀ v ∈ bVs l, bare0 v = true := fun v h => by obtain ⟨x, _, rfl⟩ := List.mem_map.1 h; rfl
theorem bGet {l : List Bool} {n : Int} {i : Nat} {x : Bool} (hn : n = i) (h : l[i]? = some x) : (ofL (bVs l) 0).get (0 + n.toNat * 1) = some (.bool x) := by subst hn; exact get_ofL0 (by unfold bVs; rw [List.getElem?_map]; simp [h])
theorem pure_equal_bool {P : Program} {t : TypeId} (hu : P.underlying t = some .bool) (d : Nat) (a b : Bool) : pureP P (Op.equalIn (d + 1) t (.bool a) (.bool b)) = some (a == b) := by
  unfold Op.equalIn
  rw [pureP_bind_eq, pureP_und hu]
  rfl
theorem bool_array {P : Program} {t e : TypeId} {m : Nat} (hu : P.underlying t = some (.array m e)) (he : P.underlying e = some .bool) (hs : sizeOf? P e = some 1) (d : Nat) (a b : List Bool) (ha : a.length = m) (hb : b.length = m) :
    pureP P (Op.equalIn (d + 2) t (.agg (bVals a).toArray) (.agg (bVals b).toArray)) = some (decide (a = b)) := by
  have hna : isAgg? P e = some false := by unfold isAgg?; rw [he]
  unfold Op.equalIn
  rw [pureP_bind_eq, pureP_und hu]
  dsimp only
  rw [pureP_bind_eq, pureP_size hs]
  dsimp only
  rw [pureP_bind_eq]
  simp only [Std.Legacy.Range.forIn_eq_forIn_range', Std.Legacy.Range.size, Nat.sub_zero, Nat.add_one_sub_one, Nat.div_one]
  have hstep : ∀ i ∈ List.range' 0 m, ∃ x y, a[i]? = some x ∧ b[i]? = some y ∧ pureP P (part e (bVals a).toArray (i * 1)) = some (.bool x) ∧ pureP P (part e (bVals b).toArray (i * 1)) = some (.bool y) := by
    intro i hi
    have hlt : i < m := by simp at hi; exact hi
    refine ⟨a[i], b[i], List.getElem?_eq_getElem (by omega), List.getElem?_eq_getElem (by omega), ?_, ?_⟩
    · exact pure_part hna (by unfold bVals; simp)
    · exact pure_part hna (by unfold bVals; simp)
  rw [forIn_all (P := P) (List.range' 0 m) (fun i => do let x ← part e (bVals a).toArray (i * 1); let y ← part e (bVals b).toArray (i * 1); Op.equalIn (d + 1) e x y)
    (fun i => a[i]? == b[i]?) ?_ _ ?_]
  · dsimp only
    have hiff : ((List.range' 0 m).all fun i => a[i]? == b[i]?) = decide (a = b) := by
      rw [Bool.eq_iff_iff, List.all_eq_true, decide_eq_true_eq]
      constructor
      · intro h
        apply List.ext_getElem?
        intro i
        by_cases hi : i < m
        · exact beq_iff_eq.1 (h i (by simp; exact hi))
        · rw [List.getElem?_eq_none (by omega), List.getElem?_eq_none (by omega)]
      · intro h i _; rw [h]; simp
    rw [hiff]
    by_cases hab : a = b
    · rw [decide_eq_true hab]; rfl
    · rw [decide_eq_false hab]; rfl
  · intro i hi
    obtain ⟨x, y, h1, h2, h3, h4⟩ := hstep i hi
    rw [pureP_bind_eq, h3]
    dsimp only
    rw [pureP_bind_eq, h4]
    dsimp only
    rw [pure_equal_bool he, h1, h2]
    simp
  · intro i hi r
    obtain ⟨x, y, h1, h2, h3, h4⟩ := hstep i hi
    rw [pureP_bind_eq, pureP_bind_eq, h3]
    dsimp only
    rw [pureP_bind_eq, pureP_bind_eq, h4]
    dsimp only
    rw [pureP_bind_eq, pure_equal_bool he]
    cases hxy : x == y <;> simp [pureP_pure]
theorem mapM_bools (a : List Bool) : mapM' plain1 (bVs a) = some (bVals a) := by
  induction a with
  | nil => rfl
  | cons x a ih => unfold bVs bVals at *; simp only [List.map_cons, mapM', plain1, ih]
theorem slow_bools {P : Program} {t e : TypeId} {m : Nat} (hu : P.underlying t = some (.array m e)) (he : P.underlying e = some .bool) (hs : sizeOf? P e = some 1) (h3 : P.eqGuardType P.depth t = false) {x y : Operand} (a b : List Bool) (ha : a.length = m) (hb : b.length = m) :
    slow P .eql t x y (.agg (bVs a)) (.agg (bVs b)) = some (.bool (decide (a = b))) := by
  have heq : pureP P (Op.equal t (.agg (bVals a).toArray) (.agg (bVals b).toArray)) = some (decide (a = b)) := by
    unfold Op.equal Op.maxDepth
    exact bool_array hu he hs 9998 a b ha hb
  unfold slow
  have hp : ∀ l : List Bool, plain (.agg (bVs l)) = some (.agg (bVals l).toArray) := by
    intro l; unfold plain; dsimp only; rw [mapM_bools]
  rw [hp, hp]
  dsimp only
  have hg : pureP P (eqGuard .eql t x y (.agg (bVals a).toArray) (.agg (bVals b).toArray)) = some () := by
    unfold eqGuard
    simp only [Bool.not_true, Bool.false_eq_true, if_false]
    rw [pureP_bind_eq]
    show (match some P with | some a => _ | none => none) = _
    dsimp only
    rw [pureP_bind_eq]
    show (match some P with | some a => _ | none => none) = _
    dsimp only
    rw [h3]
    rfl
  rw [pureP_bind_eq, hg]
  dsimp only
  show (match pureP P (do let r ← Op.equal t _ _; pure (Value.bool r)) with | some v => ofVal v | none => none) = _
  rw [pureP_bind_eq, heq]
  rfl
theorem eq8 {x y : Operand} {a b : List Bool} (ha : a.length = 8) (hb : b.length = 8) : slow Try.prog .eql 93 x y (.agg (bVs a)) (.agg (bVs b)) = some (.bool (decide (a = b))) :=
  slow_bools (e := 4) Try.underlying93 Try.underlying4 (by kernel_rfl) (by kernel_rfl) a b ha hb

theorem bVs_one (B : List Bool) : (bVs B).all one = true := by
  rw [List.all_eq_true]
  intro v hv
  obtain ⟨x, _, rfl⟩ := List.mem_map.1 hv
  rfl
theorem has8_ok (h : H) (B : List Bool) (hB : B.length = 8) (i : Nat) (b : Bool) (hi : B[i]? = some b) : CallOk Try.prog 78 [.agg (bVs B), .int .i64 i] h (.bool b) h := by
  have hlt := (List.getElem?_eq_some_iff.1 hi).1
  have hl0 : ltL 0 (bVs B) = true := ltL_of (fun v hv => ltV_bare0 (bVs_bare v hv))
  have ho := bVs_one B
  refine CallOk.run0 Try.func78 rfl rfl rfl (by show (ltL 0 (bVs B) && true) = true; rw [hl0]; rfl) rfl (WpR.of_vc ?_)
  (conv => whnf); (repeat' (first | ((with_reducible refine ifb_mk (fun hc => ?_) (fun hc => ?_)) <;> ((try simp only [decide_eq_true_eq, decide_eq_false_iff_not, Bool.not_eq_true', Bool.not_eq_false', Int.not_lt, Int.not_le, ne_eq, Decidable.not_not, beq_iff_eq, List.cons.injEq, and_true] at hc); (first | (exfalso; omega) | conv => whnf))) | ((with_reducible refine And.intro True.intro ?_); conv => whnf) | (refine som_mk (if_pos ho) ?_; conv => whnf) | ((with_reducible refine grd_get ?_); refine som_mk (a := ?_) ?hh ?_; (case hh => exact bGet rfl hi); conv => whnf) | ((with_reducible refine And.intro ?hh ?_); (case hh => (unfold InR; (try dsimp only); omega)); conv => whnf) | ((with_reducible refine And.intro ?hh ?_); (case hh => ((try dsimp only); omega)); conv => whnf) | ((with_reducible refine And.intro ?hh ?_); (case hh => ((conv => whnf); (repeat' (first | exact True.intro | rfl | refine And.intro ?_ ?_)); done)); conv => whnf) | fail))
  (refine ⟨[], ?_, rfl, rfl, trivial, (by (repeat' (first | exact True.intro | rfl | refine And.intro ?_ ?_)))⟩; simp only [renV, renL]; (first | done | rfl | simp | grind))

/-! ### Kinds -/

def akB : Int → List Int → Bool
  | _, [] => true
  | b, x :: l => decide (b + 1 ≤ x ∧ x ≤ 7) && akB x l
theorem areKinds_ok (h : H) (K : List Int) (kv : V) (hl : K.length ≤ 9223372036854775807) (hs : SlC h (iVs K) K.length kv) : CallOk Try.prog 80 [kv] h (.bool (akB (-1) K)) h := by
  obtain ⟨vo, svC, hsv, hca, hvw⟩ := hs.view 0
  have hB := @iVs_bare K
  refine CallOk.run Try.func80 rfl rfl (argsC := [svC]) (Nat.le_of_ble_eq_true rfl) [vo] (.cons (hca _ rfl) .nil) (viewMc1 iVs_bare hvw) rfl (WpR.of_vc ?_)
  cases hsv with
  | nil h0 =>
    have e : K = [] := List.eq_nil_of_length_eq_zero h0
    subst e
    (conv => whnf); (repeat' (first | ((with_reducible refine ifb_mk (fun hc => ?_) (fun hc => ?_)) <;> ((try simp only [decide_eq_true_eq, decide_eq_false_iff_not, Bool.not_eq_true', Bool.not_eq_false', Int.not_lt, Int.not_le, ne_eq, Decidable.not_not, beq_iff_eq, List.cons.injEq, and_true] at hc); (first | (exfalso; omega) | conv => whnf))) | ((with_reducible refine And.intro True.intro ?_); conv => whnf) | ((with_reducible refine WpR.loopU 2 ?_); conv => whnf) | ((with_reducible refine And.intro ?hh ?_); (case hh => (unfold InR; (try dsimp only); omega)); conv => whnf) | ((with_reducible refine And.intro ?hh ?_); (case hh => ((try dsimp only); omega)); conv => whnf) | ((with_reducible refine And.intro ?hh ?_); (case hh => ((conv => whnf); (repeat' (first | exact True.intro | rfl | refine And.intro ?_ ?_)); done)); conv => whnf) | fail))
    (refine ⟨[], ?_, rfl, rfl, trivial, (by (repeat' (first | exact True.intro | rfl | refine And.intro ?_ ?_)))⟩; simp only [renV, renL]; (first | done | rfl | simp | grind))
  | @sl cap ex =>
    (conv => whnf); (repeat' (first | ((with_reducible refine ifb_mk (fun hc => ?_) (fun hc => ?_)) <;> ((try simp only [decide_eq_true_eq, decide_eq_false_iff_not, Bool.not_eq_true', Bool.not_eq_false', Int.not_lt, Int.not_le, ne_eq, Decidable.not_not, beq_iff_eq, List.cons.injEq, and_true] at hc); (first | (exfalso; omega) | conv => whnf))) | ((with_reducible refine And.intro True.intro ?_); conv => whnf) | ((with_reducible refine And.intro ?hh ?_); (case hh => (unfold InR; (try dsimp only); omega)); conv => whnf) | ((with_reducible refine And.intro ?hh ?_); (case hh => ((try dsimp only); omega)); conv => whnf) | ((with_reducible refine And.intro ?hh ?_); (case hh => ((conv => whnf); (repeat' (first | exact True.intro | rfl | refine And.intro ?_ ?_)); done)); conv => whnf) | fail))
    show WpR Try.prog _ _ _ _ ⟨_, _, _, ⟨_, 1, 0⟩⟩ _
    refine WpR.loopD (ι := Nat × Int) [] [0, 6, 7] [] [] 1 (fun p => [(3, .int .i64 p.2), (8, .int .i64 p.1)]) (fun _ => []) (fun p => K.length - p.1) (fun p => p.1 ≤ K.length ∧ -1 ≤ p.2 ∧ p.2 ≤ 7 ∧ akB (-1) K = akB p.2 (K.drop p.1)) ?_ ((0, -1)) (⟨Nat.zero_le _, by decide, by decide, rfl⟩) [] ⟨rfl, rfl, (by (repeat' (first | exact True.intro | rfl | refine And.intro ?_ ?_))), (by (repeat' (first | exact True.intro | rfl | refine And.intro ?_ ?_))), (by (repeat' (first | exact True.intro | rfl | refine And.intro ?_ ?_))), (by (repeat' (first | exact True.intro | exact Or.inl rfl | refine And.intro ?_ ?_ | refine Or.inr ⟨_, rfl, ?_⟩ | exact SubQ.same (n := 1000) (Y := []) (fun _ _ _ => rfl) (by first | exact True.intro | exact ltB_all rfl | exact ltB_ofLb (by first | exact bare0_ints | assumption | exact bVs_bare | exact iVs_bare | exact mVs_bare | (intro v hv; (repeat (rcases List.mem_cons.1 hv with rfl | hv; exact rfl)); cases hv)) | exact ltB_loop rfl rfl | exact hMap _ | exact hMap2 _ | exact grB_lt (by first | exact bare0_ints | assumption | exact bVs_bare | exact iVs_bare | exact mVs_bare | (intro v hv; (repeat (rcases List.mem_cons.1 hv with rfl | hv; exact rfl)); cases hv)) _ | exact ltB_encL | exact ltB_map0 | assumption) (avB_nil _) rfl | exact SubQ.ofL (by first | rfl | simp) (by first | exact bare0_ints | assumption | exact bVs_bare | exact iVs_bare | exact mVs_bare | (intro v hv; (repeat (rcases List.mem_cons.1 hv with rfl | hv; exact rfl)); cases hv)) (by first | exact Or.inl rfl | exact Or.inr rfl) | exact SubQ.fin (by (conv => whnf); (repeat' (first | exact True.intro | rfl | refine And.intro ?_ ?_)); done) (fun h => h) (by first | exact Or.inl rfl | exact Or.inr rfl)))), rfl, rfl⟩ rfl rfl rfl (fun _ => rfl) (by (repeat' (first | exact True.intro | refine And.intro ?_ ?_ | exact avV_nil _ | rfl))) (by (repeat' (first | exact True.intro | (with_reducible exact avB_nil _) | ((with_reducible refine avB_all ?_); rfl) | ((with_reducible refine avB_ofLb ?_); exact (by first | exact bare0_ints | assumption | exact bVs_bare | exact iVs_bare | exact mVs_bare | (intro v hv; (repeat (rcases List.mem_cons.1 hv with rfl | hv; exact rfl)); cases hv))) | ((with_reducible refine ltB_all ?_); rfl) | ((with_reducible refine ltB_ofLb ?_); exact (by first | exact bare0_ints | assumption | exact bVs_bare | exact iVs_bare | exact mVs_bare | (intro v hv; (repeat (rcases List.mem_cons.1 hv with rfl | hv; exact rfl)); cases hv))) | ((with_reducible refine ltB_loop ?_ ?_) <;> rfl) | (with_reducible exact hMap _) | (with_reducible exact hMap2 _) | (with_reducible exact ltB_encL) | (with_reducible exact ltB_map0) | ((with_reducible refine grB_lt ?_ _); exact (by first | exact bare0_ints | assumption | exact bVs_bare | exact iVs_bare | exact mVs_bare | (intro v hv; (repeat (rcases List.mem_cons.1 hv with rfl | hv; exact rfl)); cases hv))) | (with_reducible assumption) | refine And.intro ?_ ?_ | exact (by first | exact True.intro | exact ltB_all rfl | exact ltB_ofLb (by first | exact bare0_ints | assumption | exact bVs_bare | exact iVs_bare | exact mVs_bare | (intro v hv; (repeat (rcases List.mem_cons.1 hv with rfl | hv; exact rfl)); cases hv)) | exact ltB_loop rfl rfl | exact hMap _ | exact hMap2 _ | exact grB_lt (by first | exact bare0_ints | assumption | exact bVs_bare | exact iVs_bare | exact mVs_bare | (intro v hv; (repeat (rcases List.mem_cons.1 hv with rfl | hv; exact rfl)); cases hv)) _ | exact ltB_encL | exact ltB_map0 | assumption)))) (fun _ _ => (by (repeat' (first | exact True.intro | rfl | refine And.intro ?_ ?_ | exact (by decide) | exact (by first | exact True.intro | exact hMap _ | exact hMap2 _ | exact grB_lt (by first | exact bare0_ints | assumption | exact bVs_bare | exact iVs_bare | exact mVs_bare | (intro v hv; (repeat (rcases List.mem_cons.1 hv with rfl | hv; exact rfl)); cases hv)) _ | exact ltB_all rfl | exact ltB_ofLb (by first | exact bare0_ints | assumption | exact bVs_bare | exact iVs_bare | exact mVs_bare | (intro v hv; (repeat (rcases List.mem_cons.1 hv with rfl | hv; exact rfl)); cases hv)) | exact ltB_loop rfl rfl | exact ltB_encL | exact ltB_map0 | assumption))))) (fun _ _ => (by (repeat' (first | exact True.intro | rfl | refine And.intro ?_ ?_ | exact (by decide) | exact (by first | exact True.intro | exact hMap _ | exact hMap2 _ | exact grB_lt (by first | exact bare0_ints | assumption | exact bVs_bare | exact iVs_bare | exact mVs_bare | (intro v hv; (repeat (rcases List.mem_cons.1 hv with rfl | hv; exact rfl)); cases hv)) _ | exact ltB_all rfl | exact ltB_ofLb (by first | exact bare0_ints | assumption | exact bVs_bare | exact iVs_bare | exact mVs_bare | (intro v hv; (repeat (rcases List.mem_cons.1 hv with rfl | hv; exact rfl)); cases hv)) | exact ltB_loop rfl rfl | exact ltB_encL | exact ltB_map0 | assumption))))) (fun _ _ => (by (repeat' (first | exact True.intro | rfl | refine And.intro ?_ ?_)))) rfl
    rintro ⟨i, b⟩ ⟨j1, j2, j3, j4⟩
    dsimp only at j1 j2 j3 j4
    refine WpR.of_vc ?_
    cases hx : K[i]? with
    | some y =>
      have hlt := (List.getElem?_eq_some_iff.1 hx).1
      rw [drop_at hx] at j4
      have j5 : akB (-1) K = (decide (b + 1 ≤ y ∧ y ≤ 7) && akB y (K.drop (i + 1))) := j4
      have kW := fun h' sv hs' => within_ok h' (b + 1) 7 [y] sv (by simp) hs'
      have ew : wi (b + 1) 7 [y] = decide (b + 1 ≤ y ∧ y ≤ 7) := by unfold wi; simp
      rw [ew] at kW
      by_cases hy : b + 1 ≤ y ∧ y ≤ 7
      · rw [decide_eq_true hy, Bool.true_and] at j5
        rw [decide_eq_true hy] at kW
        (conv => whnf); (repeat' (first | ((with_reducible refine ifb_mk (fun hc => ?_) (fun hc => ?_)) <;> ((try simp only [decide_eq_true_eq, decide_eq_false_iff_not, Bool.not_eq_true', Bool.not_eq_false', Int.not_lt, Int.not_le, ne_eq, Decidable.not_not, beq_iff_eq, List.cons.injEq, and_true] at hc); (first | (exfalso; omega) | conv => whnf))) | ((with_reducible refine And.intro True.intro ?_); conv => whnf) | ((with_reducible refine grd_get ?_); refine som_mk (a := ?_) ?hh ?_; (case hh => exact iGet hx); conv => whnf) | ((with_reducible refine CallX.all ?_); refine CallW.of_ok (kW _ _ (SlC.own rfl)) ?_; conv => whnf) | ((with_reducible refine And.intro ?hh ?_); (case hh => (unfold InR; (try dsimp only); omega)); conv => whnf) | ((with_reducible refine And.intro ?hh ?_); (case hh => ((try dsimp only); omega)); conv => whnf) | ((with_reducible refine And.intro ?hh ?_); (case hh => ((conv => whnf); (repeat' (first | exact True.intro | rfl | refine And.intro ?_ ?_)); done)); conv => whnf) | fail))
        exact ⟨(i + 1, y), [], by dsimp only; omega, ⟨by dsimp only; omega, by dsimp only; omega, by dsimp only; omega, j5⟩, ⟨rfl, rfl, (by (repeat' (first | exact True.intro | rfl | refine And.intro ?_ ?_))), (by (repeat' (first | exact True.intro | rfl | refine And.intro ?_ ?_))), (by (repeat' (first | exact True.intro | rfl | refine And.intro ?_ ?_))), (by (repeat' (first | exact True.intro | exact Or.inl rfl | refine And.intro ?_ ?_ | refine Or.inr ⟨_, rfl, ?_⟩ | exact SubQ.same (n := 1000) (Y := []) (fun _ _ _ => rfl) (by first | exact True.intro | exact ltB_all rfl | exact ltB_ofLb (by first | exact bare0_ints | assumption | exact bVs_bare | exact iVs_bare | exact mVs_bare | (intro v hv; (repeat (rcases List.mem_cons.1 hv with rfl | hv; exact rfl)); cases hv)) | exact ltB_loop rfl rfl | exact hMap _ | exact hMap2 _ | exact grB_lt (by first | exact bare0_ints | assumption | exact bVs_bare | exact iVs_bare | exact mVs_bare | (intro v hv; (repeat (rcases List.mem_cons.1 hv with rfl | hv; exact rfl)); cases hv)) _ | exact ltB_encL | exact ltB_map0 | assumption) (avB_nil _) rfl | exact SubQ.ofL (by first | rfl | simp) (by first | exact bare0_ints | assumption | exact bVs_bare | exact iVs_bare | exact mVs_bare | (intro v hv; (repeat (rcases List.mem_cons.1 hv with rfl | hv; exact rfl)); cases hv)) (by first | exact Or.inl rfl | exact Or.inr rfl) | exact SubQ.fin (by (conv => whnf); (repeat' (first | exact True.intro | rfl | refine And.intro ?_ ?_)); done) (fun h => h) (by first | exact Or.inl rfl | exact Or.inr rfl)))), rfl, rfl⟩⟩
      · rw [decide_eq_false hy, Bool.false_and] at j5
        rw [decide_eq_false hy] at kW
        rw [j5]
        (conv => whnf); (repeat' (first | ((with_reducible refine ifb_mk (fun hc => ?_) (fun hc => ?_)) <;> ((try simp only [decide_eq_true_eq, decide_eq_false_iff_not, Bool.not_eq_true', Bool.not_eq_false', Int.not_lt, Int.not_le, ne_eq, Decidable.not_not, beq_iff_eq, List.cons.injEq, and_true] at hc); (first | (exfalso; omega) | conv => whnf))) | ((with_reducible refine And.intro True.intro ?_); conv => whnf) | ((with_reducible refine grd_get ?_); refine som_mk (a := ?_) ?hh ?_; (case hh => exact iGet hx); conv => whnf) | ((with_reducible refine CallX.all ?_); refine CallW.of_ok (kW _ _ (SlC.own rfl)) ?_; conv => whnf) | ((with_reducible refine And.intro ?hh ?_); (case hh => (unfold InR; (try dsimp only); omega)); conv => whnf) | ((with_reducible refine And.intro ?hh ?_); (case hh => ((try dsimp only); omega)); conv => whnf) | ((with_reducible refine And.intro ?hh ?_); (case hh => ((conv => whnf); (repeat' (first | exact True.intro | rfl | refine And.intro ?_ ?_)); done)); conv => whnf) | fail))
        (refine ⟨[], ?_, rfl, rfl, trivial, (by (repeat' (first | exact True.intro | rfl | refine And.intro ?_ ?_)))⟩; simp only [renV, renL]; (first | done | rfl | simp | grind))
    | none =>
      have hlen : K.length ≤ i := by simpa using hx
      rw [List.drop_eq_nil_of_le hlen] at j4
      have j5 : akB (-1) K = true := j4
      rw [j5]
      (conv => whnf); (repeat' (first | ((with_reducible refine ifb_mk (fun hc => ?_) (fun hc => ?_)) <;> ((try simp only [decide_eq_true_eq, decide_eq_false_iff_not, Bool.not_eq_true', Bool.not_eq_false', Int.not_lt, Int.not_le, ne_eq, Decidable.not_not, beq_iff_eq, List.cons.injEq, and_true] at hc); (first | (exfalso; omega) | conv => whnf))) | ((with_reducible refine And.intro True.intro ?_); conv => whnf) | ((with_reducible refine And.intro ?hh ?_); (case hh => (unfold InR; (try dsimp only); omega)); conv => whnf) | ((with_reducible refine And.intro ?hh ?_); (case hh => ((try dsimp only); omega)); conv => whnf) | ((with_reducible refine And.intro ?hh ?_); (case hh => ((conv => whnf); (repeat' (first | exact True.intro | rfl | refine And.intro ?_ ?_)); done)); conv => whnf) | fail))
      (refine ⟨[], ?_, rfl, rfl, trivial, (by (repeat' (first | exact True.intro | rfl | refine And.intro ?_ ?_)))⟩; simp only [renV, renL]; (first | done | rfl | simp | grind))
theorem ak_nat : ∀ {b : Int} {K : List Int}, -1 ≤ b → akB b K = true → ∃ Kn : List Nat, K = Kn.map Int.ofNat ∧ (∀ k ∈ Kn, k < 8) ∧ (Kn.length : Int) ≤ 7 - b ∨ K = [] ∧ Kn = []
  | b, [], _, _ => ⟨[], .inr ⟨rfl, rfl⟩⟩
  | b, x :: K, hb, h => by
    unfold akB at h
    rw [Bool.and_eq_true, decide_eq_true_eq] at h
    obtain ⟨⟨h1, h2⟩, h3⟩ := h
    obtain ⟨Kn, hK⟩ := ak_nat (b := x) (K := K) (by omega) h3
    refine ⟨x.toNat :: Kn, .inl ⟨?_, ?_, ?_⟩⟩
    · have hx : Int.ofNat x.toNat = x := Int.toNat_of_nonneg (by omega)
      rcases hK with ⟨e, _, _⟩ | ⟨e1, e2⟩
      · rw [List.map_cons, hx, e]
      · rw [List.map_cons, hx, e1, e2]; rfl
    · intro k hk
      rcases List.mem_cons.1 hk with rfl | hk
      · omega
      · rcases hK with ⟨_, e, _⟩ | ⟨_, e2⟩
        · exact e k hk
        · rw [e2] at hk; cases hk
    · rcases hK with ⟨_, _, e⟩ | ⟨_, e2⟩
      · rw [List.length_cons]; omega
      · rw [e2]; simp; omega
/-- Kinds, as natural numbers. -/
structure Kd (K : List Int) (Kn : List Nat) : Prop where
  eq : K = Kn.map Int.ofNat
  lt : ∀ k ∈ Kn, k < 8
  len : Kn.length ≤ 8
theorem kd_of {K : List Int} (h : akB (-1) K = true) : ∃ Kn, Kd K Kn := by
  obtain ⟨Kn, hK⟩ := ak_nat (by decide) h
  rcases hK with ⟨h1, h2, h3⟩ | ⟨h1, h2⟩
  · exact ⟨Kn, h1, h2, by omega⟩
  · subst h2; exact ⟨[], h1, (fun k hk => nomatch hk), by simp⟩
end Go.Proofs.P

namespace Go.Proofs.P
open Go.As
set_option maxRecDepth 20000
set_option linter.unusedVariables false
set_option linter.unusedSimpArgs false

/-! ### What is reached -/

def passK (m : Nat) (Kn : List Nat) (B : List Bool) : List Bool := Kn.foldl (fun B k => B.set (aftN m k) true) B
def passM (B0 : List Bool) (Kn : List Nat) : Nat → List Bool → List Bool
  | 0, B => B
  | i + 1, B => match B0[i]? with
    | some true => passK i Kn (passM B0 Kn i B)
    | _ => passM B0 Kn i B
def stepB (Kn : List Nat) (B : List Bool) : List Bool := passM B Kn 8 B
def iterB (Kn : List Nat) : Nat → List Bool → List Bool
  | 0, B => B
  | f + 1, B => if stepB Kn B = B then B else iterB Kn f (stepB Kn B)
def B1 : List Bool := [true, false, false, false, false, false, false, false]
def reachB (Kn : List Nat) : List Bool := iterB Kn 8 B1
theorem passK_len (m : Nat) : ∀ (Kn : List Nat) (B : List Bool), (passK m Kn B).length = B.length
  | [], B => rfl
  | k :: Kn, B => by
    show (passK m Kn (B.set (aftN m k) true)).length = _
    rw [passK_len m Kn, List.length_set]
theorem passM_len (B0 : List Bool) (Kn : List Nat) : ∀ (i : Nat) (B : List Bool), (passM B0 Kn i B).length = B.length
  | 0, B => rfl
  | i + 1, B => by
    unfold passM
    split
    · rw [passK_len, passM_len B0 Kn i]
    · exact passM_len B0 Kn i B
theorem stepB_len (Kn : List Nat) (B : List Bool) : (stepB Kn B).length = B.length := passM_len _ _ _ _
/-- What is true stays true. -/
def Le (A B : List Bool) : Prop := ∀ i : Nat, A[i]? = some true → B[i]? = some true
theorem Le.refl (A : List Bool) : Le A A := fun i h => h
theorem Le.trans {A B C : List Bool} (h : Le A B) (k : Le B C) : Le A C := fun i hi => k i (h i hi)
theorem Le.set (B : List Bool) (j : Nat) : Le B (B.set j true) := fun i hi => by
  rw [List.getElem?_set]
  split
  · rename_i h; subst h; rw [if_pos (List.getElem?_eq_some_iff.1 hi).1]
  · exact hi
theorem passK_le (m : Nat) : ∀ (Kn : List Nat) (B : List Bool), Le B (passK m Kn B)
  | [], B => .refl B
  | k :: Kn, B => (Le.set B (aftN m k)).trans (passK_le m Kn _)
theorem passM_le (B0 : List Bool) (Kn : List Nat) : ∀ (i : Nat) (B : List Bool), Le B (passM B0 Kn i B)
  | 0, B => .refl B
  | i + 1, B => by
    unfold passM
    split
    · exact (passM_le B0 Kn i B).trans (passK_le _ _ _)
    · exact passM_le B0 Kn i B
def cF (B : List Bool) : Nat := B.count false
theorem cF_lt : ∀ {A B : List Bool}, A.length = B.length → Le A B → A ≠ B → cF B < cF A
  | [], [], _, _, h => absurd rfl h
  | a :: A, b :: B, hl, hle, hne => by
    have hl' : A.length = B.length := by simpa using hl
    have hle' : Le A B := fun i hi => by have := hle (i + 1) (by simpa using hi); simpa using this
    have h0 := hle 0
    unfold cF
    by_cases hAB : A = B
    · subst hAB
      cases a <;> cases b
      · exact absurd rfl hne
      · simp
      · simp at h0
      · exact absurd rfl hne
    · have ih := cF_lt hl' hle' hAB
      unfold cF at ih
      cases a <;> cases b
      · simp [List.count_cons]; omega
      · simp [List.count_cons]; omega
      · simp at h0
      · simp [List.count_cons]; omega
theorem iter_more (Kn : List Nat) : ∀ (f : Nat) (B : List Bool), cF B ≤ f → iterB Kn f B = iterB Kn (f + 1) B
  | 0, B, h => by
    show B = if stepB Kn B = B then B else iterB Kn 0 (stepB Kn B)
    by_cases hs : stepB Kn B = B
    · rw [if_pos hs]
    · have := cF_lt (stepB_len Kn B).symm (passM_le B Kn 8 B) (fun h => hs h.symm)
      omega
  | f + 1, B, h => by
    show (if stepB Kn B = B then B else iterB Kn f (stepB Kn B)) = if stepB Kn B = B then B else iterB Kn (f + 1) (stepB Kn B)
    by_cases hs : stepB Kn B = B
    · rw [if_pos hs, if_pos hs]
    · rw [if_neg hs, if_neg hs]
      have := cF_lt (stepB_len Kn B).symm (passM_le B Kn 8 B) (fun h => hs h.symm)
      exact iter_more Kn f _ (by unfold stepB at *; omega)
theorem cF_len (B : List Bool) : cF B ≤ B.length := List.count_le_length
theorem iter_step {Kn : List Nat} {B : List Bool} (hB : B.length = 8) (hs : stepB Kn B ≠ B) : iterB Kn 8 B = iterB Kn 8 (stepB Kn B) := by
  have h1 : iterB Kn 8 B = iterB Kn 7 (stepB Kn B) := by
    show (if stepB Kn B = B then B else iterB Kn 7 (stepB Kn B)) = _
    rw [if_neg hs]
  rw [h1]
  have := cF_lt (stepB_len Kn B).symm (passM_le B Kn 8 B) (fun h => hs h.symm)
  have h2 := cF_len B
  exact iter_more Kn 7 _ (by omega)
theorem iter_stop {Kn : List Nat} {B : List Bool} (hs : stepB Kn B = B) : iterB Kn 8 B = B := by
  show (if stepB Kn B = B then B else _) = _
  rw [if_pos hs]
end Go.Proofs.P

namespace Go.Proofs.P
open Go.As
set_option maxRecDepth 20000
set_option linter.unusedVariables false
set_option linter.unusedSimpArgs false

theorem reachedE_ok (h : H) (K : List Int) (kv : V) (hl : K.length ≤ 9223372036854775807) (he : akB (-1) K = false) (hs : SlC h (iVs K) K.length kv) : CallOk Try.prog 77 [kv] h (.tup [.agg (bVs [false, false, false, false, false, false, false, false]), .int .i64 3]) h := by
  obtain ⟨vo, svC, hsv, hca, hvw⟩ := hs.view 0
  have kA := fun h' kv hs' => areKinds_ok h' K kv hl hs'
  rw [he] at kA
  refine CallOk.run Try.func77 rfl rfl (argsC := [svC]) (Nat.le_of_ble_eq_true rfl) [vo] (.cons (hca _ rfl) .nil) (viewMc1 iVs_bare hvw) rfl (WpR.of_vc ?_)
  cases hsv
  all_goals
    (conv => whnf); (repeat' (first | ((with_reducible refine ifb_mk (fun hc => ?_) (fun hc => ?_)) <;> ((try simp only [decide_eq_true_eq, decide_eq_false_iff_not, Bool.not_eq_true', Bool.not_eq_false', Int.not_lt, Int.not_le, ne_eq, Decidable.not_not, beq_iff_eq, List.cons.injEq, and_true] at hc); (first | (exfalso; omega) | conv => whnf))) | ((with_reducible refine And.intro True.intro ?_); conv => whnf) | ((with_reducible refine CallX.all ?_); refine CallW.of_ok (kA _ _ (by first | exact SlC.own rfl | exact iNil (by omega))) ?_; conv => whnf) | ((with_reducible refine And.intro ?hh ?_); (case hh => (unfold InR; (try dsimp only); omega)); conv => whnf) | ((with_reducible refine And.intro ?hh ?_); (case hh => ((try dsimp only); omega)); conv => whnf) | ((with_reducible refine And.intro ?hh ?_); (case hh => ((conv => whnf); (repeat' (first | exact True.intro | rfl | refine And.intro ?_ ?_)); done)); conv => whnf) | fail))
    (refine ⟨[], ?_, rfl, rfl, trivial, (by (repeat' (first | exact True.intro | rfl | refine And.intro ?_ ?_)))⟩; simp only [renV, renL]; (first | done | rfl | simp | grind))

theorem reachNil : chk (evM Try.prog k2 2000 (.call 77 [.nils] H.empty)) (.tup [.agg (bVs (reachB [])), .int .i64 0]) H.empty = true := by kernel_rfl

theorem bset {B : List Bool} {i : Nat} (hi : i < B.length) : SubQ (rho []) (.cells (ofL (bVs (B.set i true)) 0) true none) (.cells ((ofL (bVs B) 0).set (0 + (i : Int).toNat * 1) (.bool true)) true none) := by
  have e : bVs (B.set i true) = (bVs B).set i (.bool true) := by unfold bVs; rw [List.map_set]
  refine SubQ.bare (fun j v hv => ⟨?_, ofL_bare bVs_bare j v hv⟩) (fun h => h) (.inl rfl)
  rw [show 0 + (i : Int).toNat * 1 = i from by simp, ofL_set_get (by unfold bVs; rw [List.length_map]; exact hi), ← e]
  exact hv

end Go.Proofs.P

namespace Go.Proofs.P
open Go.As
set_option maxRecDepth 20000
set_option linter.unusedVariables false
set_option linter.unusedSimpArgs false

/-! ### All kinds that there are -/

def gen : Nat → List (List Nat)
  | 0 => [[]]
  | s + 1 => gen s ++ (gen s).map ((7 - s) :: ·)
theorem gen_nil : ∀ s, [] ∈ gen s
  | 0 => List.mem_singleton.2 rfl
  | s + 1 => List.mem_append_left _ (gen_nil s)
theorem ak_gen : ∀ (s : Nat) (K : List Int), s ≤ 8 → akB (7 - (s : Int)) K = true → ∃ Kn ∈ gen s, K = Kn.map Int.ofNat
  | s, [], _, _ => ⟨[], gen_nil s, rfl⟩
  | 0, x :: K, _, h => by
    unfold akB at h
    rw [Bool.and_eq_true, decide_eq_true_eq] at h
    omega
  | s + 1, x :: K, hs, h => by
    have h0 := h
    unfold akB at h
    rw [Bool.and_eq_true, decide_eq_true_eq] at h
    obtain ⟨⟨h1, h2⟩, h3⟩ := h
    by_cases hx : x = ((7 - s : Nat) : Int)
    · subst hx
      have e : (((7 - s : Nat) : Int)) = 7 - (s : Int) := by omega
      rw [e] at h3
      obtain ⟨Kn, hm, hK⟩ := ak_gen s K (by omega) h3
      refine ⟨(7 - s) :: Kn, List.mem_append_right _ (List.mem_map.2 ⟨Kn, hm, rfl⟩), ?_⟩
      rw [List.map_cons, ← hK]; rfl
    · have h4 : akB (7 - (s : Int)) (x :: K) = true := by
        unfold akB
        rw [Bool.and_eq_true, decide_eq_true_eq]
        exact ⟨⟨by omega, h2⟩, h3⟩
      obtain ⟨Kn, hm, hK⟩ := ak_gen s (x :: K) (by omega) h4
      exact ⟨Kn, List.mem_append_left _ hm, hK⟩
theorem kinds_gen {K : List Int} (h : akB (-1) K = true) : ∃ Kn ∈ gen 8, K = Kn.map Int.ofNat := ak_gen 8 K (Nat.le_refl _) h
theorem ofNat_inj : ∀ {a b : List Nat}, a.map Int.ofNat = b.map Int.ofNat → a = b
  | [], [], _ => rfl
  | [], _ :: _, h => by cases h
  | _ :: _, [], h => by cases h
  | x :: a, y :: b, h => by
    rw [List.map_cons, List.map_cons, List.cons.injEq] at h
    have : x = y := by injection h.1
    rw [this, ofNat_inj h.2]
theorem kd_gen {K : List Int} {Kn : List Nat} (hK : Kd K Kn) (h : akB (-1) K = true) : Kn ∈ gen 8 := by
  obtain ⟨Kn', hm, he⟩ := kinds_gen h
  have := ofNat_inj (hK.eq.symm.trans he)
  rw [this]; exact hm
def stopAll : Bool := (gen 8).all fun Kn => stepB Kn (stepB Kn (stepB Kn (stepB Kn (stepB Kn B1)))) == stepB Kn (stepB Kn (stepB Kn (stepB Kn B1)))
theorem stopAll_ok : stopAll = true := by kernel_rfl
theorem stop_at {K : List Int} {Kn : List Nat} (hK : Kd K Kn) (h : akB (-1) K = true) : stepB Kn (stepB Kn (stepB Kn (stepB Kn (stepB Kn B1)))) = stepB Kn (stepB Kn (stepB Kn (stepB Kn B1))) :=
  beq_iff_eq.1 (List.all_eq_true.1 stopAll_ok Kn (kd_gen hK h))
theorem reach4 {K : List Int} {Kn : List Nat} (hK : Kd K Kn) (h : akB (-1) K = true) : reachB Kn = stepB Kn (stepB Kn (stepB Kn (stepB Kn B1))) := by
  have hs := stop_at hK h
  unfold reachB
  have step : ∀ B, B.length = 8 → iterB Kn 8 B = iterB Kn 8 (stepB Kn B) := fun B hB => by
    by_cases he : stepB Kn B = B
    · rw [he]
    · exact iter_step hB he
  rw [step B1 rfl, step _ (by rw [stepB_len]; rfl), step _ (by rw [stepB_len, stepB_len]; rfl), step _ (by rw [stepB_len, stepB_len, stepB_len]; rfl)]
  exact iter_stop hs
end Go.Proofs.P

namespace Go.Proofs.P
open Go.As
set_option maxRecDepth 20000
set_option linter.unusedVariables false
set_option linter.unusedSimpArgs false

/-! ### A loop whose states are written down whole -/

theorem DropQ.of_hp {n0 : Nat} {X : List Nat} {ro : Option Nat} {ρ : Nat → Nat} {l : List (Nat × V)} {nt : Nat} {mk : List Nat} {bs : List Blk} {s : St} (hnt : s.nt = nt) (hmk : s.marks = mk.map ρ) (hml : ∀ i ∈ mk, i < bs.length) (hn0 : n0 ≤ bs.length)
    (hid : ∀ i, i < n0 → i ∉ X → ρ i = i) (hro : ∀ l, ro = some l → l < bs.length ∧ ρ l = l) (ht : ∀ p ∈ l, s.t.get p.1 = some (renV ρ p.2) ∧ ltV bs.length p.2 = true)
    (hb : ∀ i b, bs[i]? = some b → b = .dead ∨ ∃ b', s.h.get (ρ i) = some b' ∧ SubQ ρ b b' ∧ ltB bs.length b) (hinj : ∀ i j bi bj, bs[i]? = some bi → bs[j]? = some bj → bi.live = true → bj.live = true → ρ i = ρ j → i = j) :
    DropQ n0 X ro ρ ⟨tm l, nt, mk, hp bs⟩ s where
  nt := hnt.symm
  marks := hmk
  mlt := hml
  old := hn0
  idn := hid
  ro := hro
  tmp := fun i v hi => ht _ (tm_get hi)
  blk := fun i b hi => by
    have hi' : bs[i]? = some b := by rw [← hp_get]; exact hi
    exact ⟨(List.getElem?_eq_some_iff.1 hi').1, hb i b hi'⟩
  inj := fun i j bi bj hi hj => hinj i j bi bj (by rw [← hp_get]; exact hi) (by rw [← hp_get]; exact hj)
theorem WpR.loopQ {P : Program} {n0 : Nat} {X : List Nat} {ro : Option Nat} {ι : Type} {c : Code} {s0 : St} {Q : Ex → St → Prop} (S : ι → St) (μ : ι → Nat) (J : ι → Prop)
    (hI : ∀ x, J x → WpR P n0 X ro c (S x) (fun ex s' => match ex with | .normal => ∃ y ρ, μ y < μ x ∧ J y ∧ DropQ n0 X ro ρ (S y) s' | ex => Q ex s'))
    (x0 : ι) (h0 : J x0) {ρ0 : Nat → Nat} (hd : DropQ n0 X ro ρ0 (S x0) s0) : WpR P n0 X ro (.loop c) s0 Q := by
  refine ⟨fun base m0 h0' w0 rr a w hs => ?_⟩
  have key : ∀ (k : Nat) (x : ι), μ x < k → J x → ∀ (a : Act) (w : World), SatR base n0 X m0 h0' w0 ro rr (S x) a w → Code.roundsIn (rf rr) 0 P c (PostR base n0 X m0 h0' w0 ro rr Q) k a w := by
    intro k
    induction k with
    | zero => intro x hx; omega
    | succ k ih =>
      intro x hx hJ a w hs
      rw [roundsIn_succ]
      refine wpIn_mono ((hI x hJ).out base m0 h0' w0 rr a w hs) ?_
      rintro e a1 w1 ⟨ex, s', hq, rfl, hs'⟩
      cases ex with
      | normal => obtain ⟨y, ρ, h1, h2, h3⟩ := hq; exact ih y (by omega) h2 a1 w1 (h3.sat hs')
      | exit id => exact ⟨_, s', hq, rfl, hs'⟩
      | ret => exact ⟨_, s', hq, rfl, hs'⟩
  exact wpIn_loop_rounds (μ x0 + 1) (key (μ x0 + 1) x0 (by omega) h0 a w (hd.sat hs))
def dfB (t j : Nat) : Blk := if j < t then .defd false else .dead
theorem dfB_lt (n t j : Nat) : ltB n (dfB t j) := by unfold dfB; split <;> trivial
def mkT : Nat → List Nat
  | 0 => []
  | t + 1 => (3 + t) :: mkT t
def stN (Kn : List Nat) : Nat → List Bool
  | 0 => B1
  | t + 1 => stepB Kn (stN Kn t)
theorem stN_len (Kn : List Nat) : ∀ t, (stN Kn t).length = 8
  | 0 => rfl
  | t + 1 => by show (stepB Kn (stN Kn t)).length = 8; rw [stepB_len, stN_len Kn t]
theorem stN_stop {K : List Int} {Kn : List Nat} (hK : Kd K Kn) (h : akB (-1) K = true) {t : Nat} (ht : t ≤ 4) (hs : stepB Kn (stN Kn t) = stN Kn t) : reachB Kn = stN Kn t := by
  rw [reach4 hK h]
  match t, ht with
  | 0, _ => show stepB Kn (stepB Kn (stepB Kn (stepB Kn (stN Kn 0)))) = _; rw [hs, hs, hs, hs]
  | 1, _ => show stepB Kn (stepB Kn (stepB Kn (stN Kn 1))) = _; rw [hs, hs, hs]
  | 2, _ => show stepB Kn (stepB Kn (stN Kn 2)) = _; rw [hs, hs]
  | 3, _ => show stepB Kn (stN Kn 3) = _; rw [hs]
  | 4, _ => rfl
theorem stN_last {K : List Int} {Kn : List Nat} (hK : Kd K Kn) (h : akB (-1) K = true) : stepB Kn (stN Kn 4) = stN Kn 4 := stop_at hK h
end Go.Proofs.P

namespace Go.Proofs.P
open Go.As
set_option maxRecDepth 20000
set_option linter.unusedVariables false
set_option linter.unusedSimpArgs false

theorem rho1_inj {a b n i j : Nat} (hb : n ≤ b) (hi : i < n) (hj : j < n) (h : rho [(a, b)] i = rho [(a, b)] j) : i = j := by
  have e : ∀ k, rho [(a, b)] k = if k = a then b else k := fun k => by
    show (match Nat.beq k a with | true => b | false => k) = _
    by_cases hk : k = a
    · subst hk; rw [Nat.beq_refl, if_pos rfl]
    · have : Nat.beq k a = false := by rw [Bool.eq_false_iff]; intro hc; exact hk (Nat.eq_of_beq_eq_true hc)
      rw [this, if_neg hk]
  rw [e, e] at h
  split at h <;> split at h <;> omega
theorem ex8 {A : List Bool} (h : A.length = 8) : ∃ a0 a1 a2 a3 a4 a5 a6 a7, A = [a0, a1, a2, a3, a4, a5, a6, a7] := by
  match A, h with
  | [a0, a1, a2, a3, a4, a5, a6, a7], _ => exact ⟨_, _, _, _, _, _, _, _, rfl⟩

set_option maxHeartbeats 20000000 in
theorem reachedFor_ok (h : H) (K : List Int) (Kn : List Nat) (hK : Kd K Kn) (hk : akB (-1) K = true) (kv : V) (hs : SlC h (iVs K) K.length kv) : CallOk Try.prog 77 [kv] h (.tup [.agg (bVs (reachB Kn)), .int .i64 0]) h := by
  have hlen : K.length = Kn.length := by rw [hK.eq, List.length_map]
  have hl8 := hK.len
  have hl : K.length ≤ 9223372036854775807 := by omega
  cases hs with
  | nil h1 h2 =>
    have e : Kn = [] := List.eq_nil_of_length_eq_zero (by omega)
    subst e
    exact CallOk.everyBare (.of_chk mixed k2_ok 2000 reachNil) rfl rfl h
  | @sl b o cap ex c w g hb hc =>
  have hs : SlC h (iVs K) K.length (.sl b o K.length cap ex) := .sl hb hc
  obtain ⟨vo, svC, hsv, hca, hvw⟩ := hs.view 0
  cases hsv with
  | nil h0 =>
    exfalso
    have := hca [vo] rfl
    cases this
  | @sl cap' ex' =>
  have hB := @iVs_bare K
  have hlr : (reachB Kn).length = 8 := by
    have : ∀ f B, B.length = 8 → (iterB Kn f B).length = 8 := by
      intro f
      induction f with
      | zero => intro B h; exact h
      | succ f ih =>
        intro B h
        unfold iterB
        split
        · exact h
        · exact ih _ (by rw [stepB_len]; exact h)
    exact this 8 B1 rfl
  have hlt0 : ∀ B : List Bool, ltL 0 (bVs B) = true := fun B => ltL_of (fun v hv => ltV_bare0 (bVs_bare v hv))
  have kA := fun h' kv hs' => areKinds_ok h' K kv hl hs'
  rw [hk] at kA
  refine CallOk.run Try.func77 rfl rfl (argsC := [.sl 0 0 K.length cap' ex']) (Nat.le_of_ble_eq_true rfl) [vo] (.cons (hca _ rfl) .nil) (viewMc1 hB hvw) (by show (ltL 0 (bVs (reachB Kn)) && true) = true; rw [hlt0]; rfl) (WpR.of_vc ?_)
  (conv => whnf); (repeat' (first | ((with_reducible refine ifb_mk (fun hc => ?_) (fun hc => ?_)) <;> ((try simp only [decide_eq_true_eq, decide_eq_false_iff_not, Bool.not_eq_true', Bool.not_eq_false', Int.not_lt, Int.not_le, ne_eq, Decidable.not_not, beq_iff_eq, List.cons.injEq, and_true] at hc); (first | (exfalso; omega) | conv => whnf))) | ((with_reducible refine And.intro True.intro ?_); conv => whnf) | ((with_reducible refine CallX.all ?_); refine CallW.of_ok (kA _ _ (SlC.own rfl)) ?_; conv => whnf) | ((with_reducible refine And.intro ?hh ?_); (case hh => (unfold InR; (try dsimp only); omega)); conv => whnf) | ((with_reducible refine And.intro ?hh ?_); (case hh => ((try dsimp only); omega)); conv => whnf) | ((with_reducible refine And.intro ?hh ?_); (case hh => ((conv => whnf); (repeat' (first | exact True.intro | rfl | refine And.intro ?_ ?_)); done)); conv => whnf) | fail))
  (conv => whnf); (repeat' (first | ((with_reducible refine ifb_mk (fun hc => ?_) (fun hc => ?_)) <;> ((try simp only [decide_eq_true_eq, decide_eq_false_iff_not, Bool.not_eq_true', Bool.not_eq_false', Int.not_lt, Int.not_le, ne_eq, Decidable.not_not, beq_iff_eq, List.cons.injEq, and_true] at hc); (first | (exfalso; omega) | conv => whnf))) | ((with_reducible refine And.intro True.intro ?_); conv => whnf) | ((with_reducible refine CallX.all ?_); refine CallW.of_ok (kA _ _ (SlC.own rfl)) ?_; conv => whnf) | ((with_reducible refine And.intro ?hh ?_); (case hh => (unfold InR; (try dsimp only); omega)); conv => whnf) | ((with_reducible refine And.intro ?hh ?_); (case hh => ((try dsimp only); omega)); conv => whnf) | ((with_reducible refine And.intro ?hh ?_); (case hh => ((conv => whnf); (repeat' (first | exact True.intro | rfl | refine And.intro ?_ ?_)); done)); conv => whnf) | fail))
  have hD : ∀ n t j, ltB n (dfB t j) := dfB_lt
  refine WpR.loopQ (ι := Nat × List Bool) (fun x => ⟨tm [(0, .sl 0 0 K.length cap' ex'), (2, .ptr 1 0), (4, .ptr 2 0)], Try.f77.ntmps, mkT x.1, hp [.cells (ofL (iVs K) 0) false none, .cells (ofL (bVs [false, false, false, false, false, false, false, false]) 0) true none, .cells (ofL (bVs x.2) 0) true none, dfB x.1 0, dfB x.1 1, dfB x.1 2, dfB x.1 3, dfB x.1 4]⟩) (fun x => 5 - x.1) (fun x => x.1 ≤ 4 ∧ x.2 = stN Kn x.1) ?_ (0, B1) ⟨Nat.zero_le _, rfl⟩ (ρ0 := id) ?_
  · rintro ⟨t, B⟩ ⟨t1, t2⟩
    dsimp only at t1 t2 ⊢
    have j1 : B.length = 8 := by rw [t2]; exact stN_len Kn t
    obtain ⟨b0, b1, b2, b3, b4, b5, b6, b7, rfl⟩ := ex8 j1
    refine WpR.of_vc ?_
    generalize hmk : mkT t = mk
    generalize hd0 : dfB t 0 = d0
    generalize hd1 : dfB t 1 = d1
    generalize hd2 : dfB t 2 = d2
    generalize hd3 : dfB t 3 = d3
    generalize hd4 : dfB t 4 = d4
    (conv => whnf); (repeat' (first | ((with_reducible refine ifb_mk (fun hc => ?_) (fun hc => ?_)) <;> ((try simp only [decide_eq_true_eq, decide_eq_false_iff_not, Bool.not_eq_true', Bool.not_eq_false', Int.not_lt, Int.not_le, ne_eq, Decidable.not_not, beq_iff_eq, List.cons.injEq, and_true] at hc); (first | (exfalso; omega) | conv => whnf))) | ((with_reducible refine And.intro True.intro ?_); conv => whnf) | ((with_reducible refine CallX.all (f := 85) ?_); refine CallW.inline Try.func85 rfl rfl (Nat.le_of_ble_eq_true rfl) (WpR.of_vc ?_); conv => whnf) | ((with_reducible refine RangeX.all ?_); conv => whnf) | ((with_reducible refine CallW.inline (f := 106) Try.func106 rfl rfl (Nat.le_of_ble_eq_true rfl) (WpR.of_vc ?_)); conv => whnf) | ((with_reducible refine CallX.all (f := 65) ?_); refine CallW.inline Try.func65 rfl rfl (Nat.le_of_ble_eq_true rfl) (WpR.of_vc ?_); conv => whnf) | ((with_reducible refine CallW.inline (f := 101) Try.func101 rfl rfl (Nat.le_of_ble_eq_true rfl) (WpR.of_vc ?_)); conv => whnf) | ((with_reducible refine And.intro ?hh ?_); (case hh => (unfold InR; (try dsimp only); omega)); conv => whnf) | ((with_reducible refine And.intro ?hh ?_); (case hh => ((try dsimp only); omega)); conv => whnf) | ((with_reducible refine And.intro ?hh ?_); (case hh => ((conv => whnf); (repeat' (first | exact True.intro | rfl | refine And.intro ?_ ?_)); done)); conv => whnf) | fail))
    have l0 : ltB 17 d0 := by rw [← hd0]; exact dfB_lt _ _ _
    have l1 : ltB 17 d1 := by rw [← hd1]; exact dfB_lt _ _ _
    have l2 : ltB 17 d2 := by rw [← hd2]; exact dfB_lt _ _ _
    have l3 : ltB 17 d3 := by rw [← hd3]; exact dfB_lt _ _ _
    have l4 : ltB 17 d4 := by rw [← hd4]; exact dfB_lt _ _ _
    have hMap : ∀ B : List Bool, ltB 17 (.cells (ofL (bVs B) 0) true none) := fun B => ltB_ofLb bVs_bare
    refine WpR.loopD (ι := Nat × List Bool) [] [0, 1] [2] [] 17 (fun p => [(4, .int .i64 p.1)]) (fun p => [(2, .cells (ofL (bVs p.2) 0) true none)]) (fun p => 8 - p.1) (fun p => p.1 ≤ 8 ∧ p.2 = passM [b0, b1, b2, b3, b4, b5, b6, b7] Kn p.1 [b0, b1, b2, b3, b4, b5, b6, b7]) ?_ ((0, [b0, b1, b2, b3, b4, b5, b6, b7])) (⟨Nat.zero_le _, rfl⟩) [] ⟨rfl, rfl, (by (repeat' (first | exact True.intro | rfl | refine And.intro ?_ ?_))), (by (repeat' (first | exact True.intro | rfl | refine And.intro ?_ ?_))), (by (repeat' (first | exact True.intro | rfl | refine And.intro ?_ ?_))), (by (repeat' (first | exact True.intro | exact Or.inl rfl | refine And.intro ?_ ?_ | refine Or.inr ⟨_, rfl, ?_⟩ | exact SubQ.same (n := 1000) (Y := []) (fun _ _ _ => rfl) (by first | exact True.intro | exact ltB_all rfl | exact ltB_ofLb (by first | exact bare0_ints | assumption | exact bVs_bare | exact iVs_bare | exact mVs_bare | (intro v hv; (repeat (rcases List.mem_cons.1 hv with rfl | hv; exact rfl)); cases hv)) | exact ltB_loop rfl rfl | exact hMap _ | exact hMap2 _ | exact grB_lt (by first | exact bare0_ints | assumption | exact bVs_bare | exact iVs_bare | exact mVs_bare | (intro v hv; (repeat (rcases List.mem_cons.1 hv with rfl | hv; exact rfl)); cases hv)) _ | exact ltB_encL | exact ltB_map0 | assumption) (avB_nil _) rfl | exact SubQ.ofL (by first | rfl | simp) (by first | exact bare0_ints | assumption | exact bVs_bare | exact iVs_bare | exact mVs_bare | (intro v hv; (repeat (rcases List.mem_cons.1 hv with rfl | hv; exact rfl)); cases hv)) (by first | exact Or.inl rfl | exact Or.inr rfl) | exact SubQ.fin (by (conv => whnf); (repeat' (first | exact True.intro | rfl | refine And.intro ?_ ?_)); done) (fun h => h) (by first | exact Or.inl rfl | exact Or.inr rfl)))), rfl, rfl⟩ rfl rfl rfl (fun _ => rfl) (by (repeat' (first | exact True.intro | refine And.intro ?_ ?_ | exact avV_nil _ | rfl))) (by (repeat' (first | exact True.intro | (with_reducible exact avB_nil _) | ((with_reducible refine avB_all ?_); rfl) | ((with_reducible refine avB_ofLb ?_); exact (by first | exact bare0_ints | assumption | exact bVs_bare | exact iVs_bare | exact mVs_bare | (intro v hv; (repeat (rcases List.mem_cons.1 hv with rfl | hv; exact rfl)); cases hv))) | ((with_reducible refine ltB_all ?_); rfl) | ((with_reducible refine ltB_ofLb ?_); exact (by first | exact bare0_ints | assumption | exact bVs_bare | exact iVs_bare | exact mVs_bare | (intro v hv; (repeat (rcases List.mem_cons.1 hv with rfl | hv; exact rfl)); cases hv))) | ((with_reducible refine ltB_loop ?_ ?_) <;> rfl) | (with_reducible exact hMap _) | (with_reducible exact hMap2 _) | (with_reducible exact ltB_encL) | (with_reducible exact ltB_map0) | ((with_reducible refine grB_lt ?_ _); exact (by first | exact bare0_ints | assumption | exact bVs_bare | exact iVs_bare | exact mVs_bare | (intro v hv; (repeat (rcases List.mem_cons.1 hv with rfl | hv; exact rfl)); cases hv))) | (with_reducible assumption) | refine And.intro ?_ ?_ | exact (by first | exact True.intro | exact ltB_all rfl | exact ltB_ofLb (by first | exact bare0_ints | assumption | exact bVs_bare | exact iVs_bare | exact mVs_bare | (intro v hv; (repeat (rcases List.mem_cons.1 hv with rfl | hv; exact rfl)); cases hv)) | exact ltB_loop rfl rfl | exact hMap _ | exact hMap2 _ | exact grB_lt (by first | exact bare0_ints | assumption | exact bVs_bare | exact iVs_bare | exact mVs_bare | (intro v hv; (repeat (rcases List.mem_cons.1 hv with rfl | hv; exact rfl)); cases hv)) _ | exact ltB_encL | exact ltB_map0 | assumption)))) (fun _ _ => (by (repeat' (first | exact True.intro | rfl | refine And.intro ?_ ?_ | exact (by decide) | exact (by first | exact True.intro | exact hMap _ | exact hMap2 _ | exact grB_lt (by first | exact bare0_ints | assumption | exact bVs_bare | exact iVs_bare | exact mVs_bare | (intro v hv; (repeat (rcases List.mem_cons.1 hv with rfl | hv; exact rfl)); cases hv)) _ | exact ltB_all rfl | exact ltB_ofLb (by first | exact bare0_ints | assumption | exact bVs_bare | exact iVs_bare | exact mVs_bare | (intro v hv; (repeat (rcases List.mem_cons.1 hv with rfl | hv; exact rfl)); cases hv)) | exact ltB_loop rfl rfl | exact ltB_encL | exact ltB_map0 | assumption))))) (fun _ _ => (by (repeat' (first | exact True.intro | rfl | refine And.intro ?_ ?_ | exact (by decide) | exact (by first | exact True.intro | exact hMap _ | exact hMap2 _ | exact grB_lt (by first | exact bare0_ints | assumption | exact bVs_bare | exact iVs_bare | exact mVs_bare | (intro v hv; (repeat (rcases List.mem_cons.1 hv with rfl | hv; exact rfl)); cases hv)) _ | exact ltB_all rfl | exact ltB_ofLb (by first | exact bare0_ints | assumption | exact bVs_bare | exact iVs_bare | exact mVs_bare | (intro v hv; (repeat (rcases List.mem_cons.1 hv with rfl | hv; exact rfl)); cases hv)) | exact ltB_loop rfl rfl | exact ltB_encL | exact ltB_map0 | assumption))))) (fun _ _ => (by (repeat' (first | exact True.intro | rfl | refine And.intro ?_ ?_)))) rfl
    rintro ⟨i, A⟩ ⟨i1, i2⟩
    dsimp only at i1 i2
    have hA : A.length = 8 := by rw [i2, passM_len]; rfl
    refine WpR.of_vc ?_
    by_cases hi : i < 8
    · obtain ⟨bi, hbi⟩ : ∃ bi, [b0, b1, b2, b3, b4, b5, b6, b7][i]? = some bi := ⟨_, List.getElem?_eq_getElem hi⟩
      have kH := fun h' => has8_ok h' [b0, b1, b2, b3, b4, b5, b6, b7] rfl i bi hbi
      have hs2 : passM [b0, b1, b2, b3, b4, b5, b6, b7] Kn (i + 1) [b0, b1, b2, b3, b4, b5, b6, b7] = match [b0, b1, b2, b3, b4, b5, b6, b7][i]? with
        | some true => passK i Kn (passM [b0, b1, b2, b3, b4, b5, b6, b7] Kn i [b0, b1, b2, b3, b4, b5, b6, b7])
        | _ => passM [b0, b1, b2, b3, b4, b5, b6, b7] Kn i [b0, b1, b2, b3, b4, b5, b6, b7] := rfl
      rw [hbi, ← i2] at hs2
      cases bi with
      | false =>
        dsimp only at hs2
        (conv => whnf); (repeat' (first | ((with_reducible refine ifb_mk (fun hc => ?_) (fun hc => ?_)) <;> ((try simp only [decide_eq_true_eq, decide_eq_false_iff_not, Bool.not_eq_true', Bool.not_eq_false', Int.not_lt, Int.not_le, ne_eq, Decidable.not_not, beq_iff_eq, List.cons.injEq, and_true] at hc); (first | (exfalso; omega) | conv => whnf))) | ((with_reducible refine And.intro True.intro ?_); conv => whnf) | ((with_reducible refine CallX.all ?_); refine CallW.of_ok (kH _) ?_; conv => whnf) | ((with_reducible refine And.intro ?hh ?_); (case hh => (unfold InR; (try dsimp only); omega)); conv => whnf) | ((with_reducible refine And.intro ?hh ?_); (case hh => ((try dsimp only); omega)); conv => whnf) | ((with_reducible refine And.intro ?hh ?_); (case hh => ((conv => whnf); (repeat' (first | exact True.intro | rfl | refine And.intro ?_ ?_)); done)); conv => whnf) | fail))
        exact ⟨(i + 1, A), [], by dsimp only; omega, ⟨by dsimp only; omega, hs2.symm⟩, ⟨rfl, rfl, (by (repeat' (first | exact True.intro | rfl | refine And.intro ?_ ?_))), (by (repeat' (first | exact True.intro | rfl | refine And.intro ?_ ?_))), (by (repeat' (first | exact True.intro | rfl | refine And.intro ?_ ?_))), (by (repeat' (first | exact True.intro | exact Or.inl rfl | refine And.intro ?_ ?_ | refine Or.inr ⟨_, rfl, ?_⟩ | exact SubQ.same (n := 1000) (Y := []) (fun _ _ _ => rfl) (by first | exact True.intro | exact ltB_all rfl | exact ltB_ofLb (by first | exact bare0_ints | assumption | exact bVs_bare | exact iVs_bare | exact mVs_bare | (intro v hv; (repeat (rcases List.mem_cons.1 hv with rfl | hv; exact rfl)); cases hv)) | exact ltB_loop rfl rfl | exact hMap _ | exact hMap2 _ | exact grB_lt (by first | exact bare0_ints | assumption | exact bVs_bare | exact iVs_bare | exact mVs_bare | (intro v hv; (repeat (rcases List.mem_cons.1 hv with rfl | hv; exact rfl)); cases hv)) _ | exact ltB_encL | exact ltB_map0 | assumption) (avB_nil _) rfl | exact SubQ.ofL (by first | rfl | simp) (by first | exact bare0_ints | assumption | exact bVs_bare | exact iVs_bare | exact mVs_bare | (intro v hv; (repeat (rcases List.mem_cons.1 hv with rfl | hv; exact rfl)); cases hv)) (by first | exact Or.inl rfl | exact Or.inr rfl) | exact SubQ.fin (by (conv => whnf); (repeat' (first | exact True.intro | rfl | refine And.intro ?_ ?_)); done) (fun h => h) (by first | exact Or.inl rfl | exact Or.inr rfl)))), rfl, rfl⟩⟩
      | true =>
        dsimp only at hs2
        (conv => whnf); (repeat' (first | ((with_reducible refine ifb_mk (fun hc => ?_) (fun hc => ?_)) <;> ((try simp only [decide_eq_true_eq, decide_eq_false_iff_not, Bool.not_eq_true', Bool.not_eq_false', Int.not_lt, Int.not_le, ne_eq, Decidable.not_not, beq_iff_eq, List.cons.injEq, and_true] at hc); (first | (exfalso; omega) | conv => whnf))) | ((with_reducible refine And.intro True.intro ?_); conv => whnf) | ((with_reducible refine CallX.all ?_); refine CallW.of_ok (kH _) ?_; conv => whnf) | ((with_reducible refine And.intro ?hh ?_); (case hh => (unfold InR; (try dsimp only); omega)); conv => whnf) | ((with_reducible refine And.intro ?hh ?_); (case hh => ((try dsimp only); omega)); conv => whnf) | ((with_reducible refine And.intro ?hh ?_); (case hh => ((conv => whnf); (repeat' (first | exact True.intro | rfl | refine And.intro ?_ ?_)); done)); conv => whnf) | fail))
        refine YldX.all ?_
        refine YldW.inline rfl rfl rfl (WpR.of_vc ?_)
        conv => whnf
        refine ⟨rfl, _, rfl, rfl, WpR.of_vc ?_⟩
        (conv => whnf); (repeat' (first | ((with_reducible refine ifb_mk (fun hc => ?_) (fun hc => ?_)) <;> ((try simp only [decide_eq_true_eq, decide_eq_false_iff_not, Bool.not_eq_true', Bool.not_eq_false', Int.not_lt, Int.not_le, ne_eq, Decidable.not_not, beq_iff_eq, List.cons.injEq, and_true] at hc); (first | (exfalso; omega) | conv => whnf))) | ((with_reducible refine And.intro True.intro ?_); conv => whnf) | ((with_reducible refine And.intro ?hh ?_); (case hh => (unfold InR; (try dsimp only); omega)); conv => whnf) | ((with_reducible refine And.intro ?hh ?_); (case hh => ((try dsimp only); omega)); conv => whnf) | ((with_reducible refine And.intro ?hh ?_); (case hh => ((conv => whnf); (repeat' (first | exact True.intro | rfl | refine And.intro ?_ ?_)); done)); conv => whnf) | fail))
        refine WpR.loopD (ι := Nat × List Bool) [] [3, 4, 10, 11] [2] [] 17 (fun p => [(12, .int .i64 p.1)]) (fun p => [(2, .cells (ofL (bVs p.2) 0) true none)]) (fun p => K.length - p.1) (fun p => p.1 ≤ K.length ∧ p.2.length = 8 ∧ passK i (Kn.drop p.1) p.2 = passK i Kn A) ?_ ((0, A)) (⟨Nat.zero_le _, hA, rfl⟩) [] ⟨rfl, rfl, (by (repeat' (first | exact True.intro | rfl | refine And.intro ?_ ?_))), (by (repeat' (first | exact True.intro | rfl | refine And.intro ?_ ?_))), (by (repeat' (first | exact True.intro | rfl | refine And.intro ?_ ?_))), (by (repeat' (first | exact True.intro | exact Or.inl rfl | refine And.intro ?_ ?_ | refine Or.inr ⟨_, rfl, ?_⟩ | exact SubQ.same (n := 1000) (Y := []) (fun _ _ _ => rfl) (by first | exact True.intro | exact ltB_all rfl | exact ltB_ofLb (by first | exact bare0_ints | assumption | exact bVs_bare | exact iVs_bare | exact mVs_bare | (intro v hv; (repeat (rcases List.mem_cons.1 hv with rfl | hv; exact rfl)); cases hv)) | exact ltB_loop rfl rfl | exact hMap _ | exact hMap2 _ | exact grB_lt (by first | exact bare0_ints | assumption | exact bVs_bare | exact iVs_bare | exact mVs_bare | (intro v hv; (repeat (rcases List.mem_cons.1 hv with rfl | hv; exact rfl)); cases hv)) _ | exact ltB_encL | exact ltB_map0 | assumption) (avB_nil _) rfl | exact SubQ.ofL (by first | rfl | simp) (by first | exact bare0_ints | assumption | exact bVs_bare | exact iVs_bare | exact mVs_bare | (intro v hv; (repeat (rcases List.mem_cons.1 hv with rfl | hv; exact rfl)); cases hv)) (by first | exact Or.inl rfl | exact Or.inr rfl) | exact SubQ.fin (by (conv => whnf); (repeat' (first | exact True.intro | rfl | refine And.intro ?_ ?_)); done) (fun h => h) (by first | exact Or.inl rfl | exact Or.inr rfl)))), rfl, rfl⟩ rfl rfl rfl (fun _ => rfl) (by (repeat' (first | exact True.intro | refine And.intro ?_ ?_ | exact avV_nil _ | rfl))) (by (repeat' (first | exact True.intro | (with_reducible exact avB_nil _) | ((with_reducible refine avB_all ?_); rfl) | ((with_reducible refine avB_ofLb ?_); exact (by first | exact bare0_ints | assumption | exact bVs_bare | exact iVs_bare | exact mVs_bare | (intro v hv; (repeat (rcases List.mem_cons.1 hv with rfl | hv; exact rfl)); cases hv))) | ((with_reducible refine ltB_all ?_); rfl) | ((with_reducible refine ltB_ofLb ?_); exact (by first | exact bare0_ints | assumption | exact bVs_bare | exact iVs_bare | exact mVs_bare | (intro v hv; (repeat (rcases List.mem_cons.1 hv with rfl | hv; exact rfl)); cases hv))) | ((with_reducible refine ltB_loop ?_ ?_) <;> rfl) | (with_reducible exact hMap _) | (with_reducible exact hMap2 _) | (with_reducible exact ltB_encL) | (with_reducible exact ltB_map0) | ((with_reducible refine grB_lt ?_ _); exact (by first | exact bare0_ints | assumption | exact bVs_bare | exact iVs_bare | exact mVs_bare | (intro v hv; (repeat (rcases List.mem_cons.1 hv with rfl | hv; exact rfl)); cases hv))) | (with_reducible assumption) | refine And.intro ?_ ?_ | exact (by first | exact True.intro | exact ltB_all rfl | exact ltB_ofLb (by first | exact bare0_ints | assumption | exact bVs_bare | exact iVs_bare | exact mVs_bare | (intro v hv; (repeat (rcases List.mem_cons.1 hv with rfl | hv; exact rfl)); cases hv)) | exact ltB_loop rfl rfl | exact hMap _ | exact hMap2 _ | exact grB_lt (by first | exact bare0_ints | assumption | exact bVs_bare | exact iVs_bare | exact mVs_bare | (intro v hv; (repeat (rcases List.mem_cons.1 hv with rfl | hv; exact rfl)); cases hv)) _ | exact ltB_encL | exact ltB_map0 | assumption)))) (fun _ _ => (by (repeat' (first | exact True.intro | rfl | refine And.intro ?_ ?_ | exact (by decide) | exact (by first | exact True.intro | exact hMap _ | exact hMap2 _ | exact grB_lt (by first | exact bare0_ints | assumption | exact bVs_bare | exact iVs_bare | exact mVs_bare | (intro v hv; (repeat (rcases List.mem_cons.1 hv with rfl | hv; exact rfl)); cases hv)) _ | exact ltB_all rfl | exact ltB_ofLb (by first | exact bare0_ints | assumption | exact bVs_bare | exact iVs_bare | exact mVs_bare | (intro v hv; (repeat (rcases List.mem_cons.1 hv with rfl | hv; exact rfl)); cases hv)) | exact ltB_loop rfl rfl | exact ltB_encL | exact ltB_map0 | assumption))))) (fun _ _ => (by (repeat' (first | exact True.intro | rfl | refine And.intro ?_ ?_ | exact (by decide) | exact (by first | exact True.intro | exact hMap _ | exact hMap2 _ | exact grB_lt (by first | exact bare0_ints | assumption | exact bVs_bare | exact iVs_bare | exact mVs_bare | (intro v hv; (repeat (rcases List.mem_cons.1 hv with rfl | hv; exact rfl)); cases hv)) _ | exact ltB_all rfl | exact ltB_ofLb (by first | exact bare0_ints | assumption | exact bVs_bare | exact iVs_bare | exact mVs_bare | (intro v hv; (repeat (rcases List.mem_cons.1 hv with rfl | hv; exact rfl)); cases hv)) | exact ltB_loop rfl rfl | exact ltB_encL | exact ltB_map0 | assumption))))) (fun _ _ => (by (repeat' (first | exact True.intro | rfl | refine And.intro ?_ ?_)))) rfl
        rintro ⟨j, C⟩ ⟨k1, k2, k3⟩
        dsimp only at k1 k2 k3
        refine WpR.of_vc ?_
        cases hx : Kn[j]? with
        | some kk =>
          have hjl := (List.getElem?_eq_some_iff.1 hx).1
          have hkk : kk < 8 := hK.lt kk (List.mem_of_getElem? hx)
          have hKx : K[j]? = some (kk : Int) := by rw [hK.eq, List.getElem?_map, hx]; rfl
          have hap := aft_lt hi hkk
          have kAf : ∀ h', CallOk Try.prog 71 [.int .i64 i, .int .i64 kk] h' (.int .i64 (aftN i kk : Nat)) h' := fun h' => after_ok h' i kk hi hkk
          rw [drop_at hx] at k3
          have k4 : passK i (Kn.drop (j + 1)) (C.set (aftN i kk) true) = passK i Kn A := k3
          obtain ⟨a, ha⟩ : ∃ a, aftN i kk = a := ⟨_, rfl⟩
          rw [ha] at kAf hap k4
          have hput : ∀ v, putN [v] (ofL (bVs C) 0) (0 + (a : Int).toNat * 1) = some ((ofL (bVs C) 0).set (0 + (a : Int).toNat * 1) v) := fun v => putN_one (bGet rfl (List.getElem?_eq_getElem (show a < C.length by omega)))
          have sb := bset (B := C) (i := a) (by omega)
          (conv => whnf); (repeat' (first | ((with_reducible refine ifb_mk (fun hc => ?_) (fun hc => ?_)) <;> ((try simp only [decide_eq_true_eq, decide_eq_false_iff_not, Bool.not_eq_true', Bool.not_eq_false', Int.not_lt, Int.not_le, ne_eq, Decidable.not_not, beq_iff_eq, List.cons.injEq, and_true] at hc); (first | (exfalso; omega) | conv => whnf))) | ((with_reducible refine And.intro True.intro ?_); conv => whnf) | ((with_reducible refine grd_get ?_); refine som_mk (a := ?_) ?hh ?_; (case hh => exact iGet hKx); conv => whnf) | ((with_reducible refine And.intro ?hh ?_); (case hh => (unfold InR; (try dsimp only); omega)); conv => whnf) | ((with_reducible refine And.intro ?hh ?_); (case hh => ((try dsimp only); omega)); conv => whnf) | ((with_reducible refine And.intro ?hh ?_); (case hh => ((conv => whnf); (repeat' (first | exact True.intro | rfl | refine And.intro ?_ ?_)); done)); conv => whnf) | fail))
          refine YldX.all ?_
          refine YldW.inline rfl rfl rfl (WpR.of_vc ?_)
          conv => whnf
          refine ⟨rfl, _, rfl, rfl, WpR.of_vc ?_⟩
          (conv => whnf); (repeat' (first | ((with_reducible refine ifb_mk (fun hc => ?_) (fun hc => ?_)) <;> ((try simp only [decide_eq_true_eq, decide_eq_false_iff_not, Bool.not_eq_true', Bool.not_eq_false', Int.not_lt, Int.not_le, ne_eq, Decidable.not_not, beq_iff_eq, List.cons.injEq, and_true] at hc); (first | (exfalso; omega) | conv => whnf))) | ((with_reducible refine And.intro True.intro ?_); conv => whnf) | ((with_reducible refine CallX.all ?_); refine CallW.of_ok (kAf _) ?_; conv => whnf) | ((with_reducible refine grd_putN ?_); refine som_mk (a := ?_) ?hh ?_; (case hh => exact hput _); conv => whnf) | ((with_reducible refine And.intro ?hh ?_); (case hh => (unfold InR; (try dsimp only); omega)); conv => whnf) | ((with_reducible refine And.intro ?hh ?_); (case hh => ((try dsimp only); omega)); conv => whnf) | ((with_reducible refine And.intro ?hh ?_); (case hh => ((conv => whnf); (repeat' (first | exact True.intro | rfl | refine And.intro ?_ ?_)); done)); conv => whnf) | fail))
          refine ⟨_, _, rfl, ?_⟩
          (conv => whnf); (repeat' (first | ((with_reducible refine ifb_mk (fun hc => ?_) (fun hc => ?_)) <;> ((try simp only [decide_eq_true_eq, decide_eq_false_iff_not, Bool.not_eq_true', Bool.not_eq_false', Int.not_lt, Int.not_le, ne_eq, Decidable.not_not, beq_iff_eq, List.cons.injEq, and_true] at hc); (first | (exfalso; omega) | conv => whnf))) | ((with_reducible refine And.intro True.intro ?_); conv => whnf) | ((with_reducible refine And.intro ?hh ?_); (case hh => (unfold InR; (try dsimp only); omega)); conv => whnf) | ((with_reducible refine And.intro ?hh ?_); (case hh => ((try dsimp only); omega)); conv => whnf) | ((with_reducible refine And.intro ?hh ?_); (case hh => ((conv => whnf); (repeat' (first | exact True.intro | rfl | refine And.intro ?_ ?_)); done)); conv => whnf) | fail))
          exact ⟨(j + 1, C.set a true), [], by dsimp only; omega, ⟨by dsimp only; omega, by rw [List.length_set]; exact k2, k4⟩, ⟨rfl, rfl, (by (repeat' (first | exact True.intro | rfl | refine And.intro ?_ ?_))), (by (repeat' (first | exact True.intro | rfl | refine And.intro ?_ ?_))), (by (repeat' (first | exact True.intro | rfl | refine And.intro ?_ ?_))), ⟨.inr ⟨_, rfl, sb⟩, trivial⟩, rfl, rfl⟩⟩
        | none =>
          have hjl : Kn.length ≤ j := by simpa using hx
          rw [List.drop_eq_nil_of_le hjl] at k3
          have k4 : C = passK i Kn A := k3
          rw [← k4] at hs2
          (conv => whnf); (repeat' (first | ((with_reducible refine ifb_mk (fun hc => ?_) (fun hc => ?_)) <;> ((try simp only [decide_eq_true_eq, decide_eq_false_iff_not, Bool.not_eq_true', Bool.not_eq_false', Int.not_lt, Int.not_le, ne_eq, Decidable.not_not, beq_iff_eq, List.cons.injEq, and_true] at hc); (first | (exfalso; omega) | conv => whnf))) | ((with_reducible refine And.intro True.intro ?_); conv => whnf) | ((with_reducible refine And.intro ?hh ?_); (case hh => (unfold InR; (try dsimp only); omega)); conv => whnf) | ((with_reducible refine And.intro ?hh ?_); (case hh => ((try dsimp only); omega)); conv => whnf) | ((with_reducible refine And.intro ?hh ?_); (case hh => ((conv => whnf); (repeat' (first | exact True.intro | rfl | refine And.intro ?_ ?_)); done)); conv => whnf) | fail))
          refine ⟨_, _, rfl, ?_⟩
          (conv => whnf); (repeat' (first | ((with_reducible refine ifb_mk (fun hc => ?_) (fun hc => ?_)) <;> ((try simp only [decide_eq_true_eq, decide_eq_false_iff_not, Bool.not_eq_true', Bool.not_eq_false', Int.not_lt, Int.not_le, ne_eq, Decidable.not_not, beq_iff_eq, List.cons.injEq, and_true] at hc); (first | (exfalso; omega) | conv => whnf))) | ((with_reducible refine And.intro True.intro ?_); conv => whnf) | ((with_reducible refine And.intro ?hh ?_); (case hh => (unfold InR; (try dsimp only); omega)); conv => whnf) | ((with_reducible refine And.intro ?hh ?_); (case hh => ((try dsimp only); omega)); conv => whnf) | ((with_reducible refine And.intro ?hh ?_); (case hh => ((conv => whnf); (repeat' (first | exact True.intro | rfl | refine And.intro ?_ ?_)); done)); conv => whnf) | fail))
          exact ⟨(i + 1, C), [], by dsimp only; omega, ⟨by dsimp only; omega, hs2.symm⟩, ⟨rfl, rfl, (by (repeat' (first | exact True.intro | rfl | refine And.intro ?_ ?_))), (by (repeat' (first | exact True.intro | rfl | refine And.intro ?_ ?_))), (by (repeat' (first | exact True.intro | rfl | refine And.intro ?_ ?_))), (by (repeat' (first | exact True.intro | exact Or.inl rfl | refine And.intro ?_ ?_ | refine Or.inr ⟨_, rfl, ?_⟩ | exact SubQ.same (n := 1000) (Y := []) (fun _ _ _ => rfl) (by first | exact True.intro | exact ltB_all rfl | exact ltB_ofLb (by first | exact bare0_ints | assumption | exact bVs_bare | exact iVs_bare | exact mVs_bare | (intro v hv; (repeat (rcases List.mem_cons.1 hv with rfl | hv; exact rfl)); cases hv)) | exact ltB_loop rfl rfl | exact hMap _ | exact hMap2 _ | exact grB_lt (by first | exact bare0_ints | assumption | exact bVs_bare | exact iVs_bare | exact mVs_bare | (intro v hv; (repeat (rcases List.mem_cons.1 hv with rfl | hv; exact rfl)); cases hv)) _ | exact ltB_encL | exact ltB_map0 | assumption) (avB_nil _) rfl | exact SubQ.ofL (by first | rfl | simp) (by first | exact bare0_ints | assumption | exact bVs_bare | exact iVs_bare | exact mVs_bare | (intro v hv; (repeat (rcases List.mem_cons.1 hv with rfl | hv; exact rfl)); cases hv)) (by first | exact Or.inl rfl | exact Or.inr rfl) | exact SubQ.fin (by (conv => whnf); (repeat' (first | exact True.intro | rfl | refine And.intro ?_ ?_)); done) (fun h => h) (by first | exact Or.inl rfl | exact Or.inr rfl)))), rfl, rfl⟩⟩
    have e : i = 8 := by omega
    subst e
    have hst : stepB Kn [b0, b1, b2, b3, b4, b5, b6, b7] = A := i2.symm
    clear i2
    obtain ⟨a0, a1, a2, a3, a4, a5, a6, a7, rfl⟩ := ex8 hA
    (conv => whnf); (repeat' (first | ((with_reducible refine ifb_mk (fun hc => ?_) (fun hc => ?_)) <;> ((try simp only [decide_eq_true_eq, decide_eq_false_iff_not, Bool.not_eq_true', Bool.not_eq_false', Int.not_lt, Int.not_le, ne_eq, Decidable.not_not, beq_iff_eq, List.cons.injEq, and_true] at hc); (first | (exfalso; omega) | conv => whnf))) | ((with_reducible refine And.intro True.intro ?_); conv => whnf) | ((with_reducible refine grd_slow ?_); refine som_mk (a := ?_) ?hh ?_; (case hh => exact eq8 (a := [a0, a1, a2, a3, a4, a5, a6, a7]) rfl (b := [b0, b1, b2, b3, b4, b5, b6, b7]) rfl); conv => whnf) | ((with_reducible refine And.intro ?hh ?_); (case hh => (unfold InR; (try dsimp only); omega)); conv => whnf) | ((with_reducible refine And.intro ?hh ?_); (case hh => ((try dsimp only); omega)); conv => whnf) | ((with_reducible refine And.intro ?hh ?_); (case hh => ((conv => whnf); (repeat' (first | exact True.intro | rfl | refine And.intro ?_ ?_)); done)); conv => whnf) | fail))
    · have he : [a0, a1, a2, a3, a4, a5, a6, a7] = [b0, b1, b2, b3, b4, b5, b6, b7] := by simp only [List.cons.injEq, and_true]; exact hc
      have hr : reachB Kn = [a0, a1, a2, a3, a4, a5, a6, a7] := by
        rw [stN_stop hK hk t1 (by rw [← t2]; exact hst.trans he), ← t2, he]
      rw [hr]
      clear l0 l1 l2 l3 l4
      rcases (show t = 0 ∨ t = 1 ∨ t = 2 ∨ t = 3 ∨ t = 4 by omega) with rfl | rfl | rfl | rfl | rfl
      all_goals
        subst hmk hd0 hd1 hd2 hd3 hd4
        (conv => whnf); (repeat' (first | ((with_reducible refine ifb_mk (fun hc => ?_) (fun hc => ?_)) <;> ((try simp only [decide_eq_true_eq, decide_eq_false_iff_not, Bool.not_eq_true', Bool.not_eq_false', Int.not_lt, Int.not_le, ne_eq, Decidable.not_not, beq_iff_eq, List.cons.injEq, and_true] at hc); (first | (exfalso; omega) | conv => whnf))) | ((with_reducible refine And.intro True.intro ?_); conv => whnf) | ((with_reducible refine And.intro ?hh ?_); (case hh => (unfold InR; (try dsimp only); omega)); conv => whnf) | ((with_reducible refine And.intro ?hh ?_); (case hh => ((try dsimp only); omega)); conv => whnf) | ((with_reducible refine And.intro ?hh ?_); (case hh => ((conv => whnf); (repeat' (first | exact True.intro | rfl | refine And.intro ?_ ?_)); done)); conv => whnf) | fail))
        (refine ⟨[], ?_, rfl, rfl, trivial, (by (repeat' (first | exact True.intro | rfl | refine And.intro ?_ ?_)))⟩; simp only [renV, renL]; (first | done | rfl | simp | grind))
    · have hne : ¬ [a0, a1, a2, a3, a4, a5, a6, a7] = [b0, b1, b2, b3, b4, b5, b6, b7] := fun h => hc (by simpa only [List.cons.injEq, and_true] using h)
      have h4 : t < 4 := by
        refine Nat.lt_of_le_of_ne t1 fun h => ?_
        subst h
        exact hne (by rw [← hst, t2]; exact stN_last hK hk)
      have hnext : [a0, a1, a2, a3, a4, a5, a6, a7] = stN Kn (t + 1) := by show _ = stepB Kn (stN Kn t); rw [← t2, hst]
      clear l0 l1 l2 l3 l4
      refine ⟨(t + 1, [a0, a1, a2, a3, a4, a5, a6, a7]), rho [(3 + t, 11)], by dsimp only; omega, ⟨by dsimp only; omega, hnext⟩, ?_⟩
      rcases (show t = 0 ∨ t = 1 ∨ t = 2 ∨ t = 3 by omega) with rfl | rfl | rfl | rfl
      all_goals
        subst hmk hd0 hd1 hd2 hd3 hd4
        refine DropQ.of_hp rfl rfl (show ∀ i ∈ mkT _, i < 8 from ?m1) (show 1 ≤ 8 by decide) (show ∀ i, i < 1 → i ∉ [] → rho _ i = i from fun i hi _ => ?m2) (fun l hl => nomatch hl) ?_ ?_ ?_
        case m1 => intro i hi; simp [mkT] at hi; omega
        case m2 => (have : i = 0 := by omega); subst this; rfl
        · intro p hp
          simp only [List.mem_cons, List.not_mem_nil, or_false] at hp
          rcases hp with rfl | rfl | rfl
          · exact ⟨rfl, rfl⟩
          · exact ⟨rfl, rfl⟩
          · exact ⟨rfl, rfl⟩
        · intro i b hi
          match i with
          | 0 => have e := Option.some.inj hi; subst e; exact .inr ⟨_, rfl, SubQ.ofL rfl iVs_bare (.inl rfl), ltB_ofLb iVs_bare⟩
          | 1 => have e := Option.some.inj hi; subst e; exact .inr ⟨_, rfl, SubQ.ofL rfl bVs_bare (.inl rfl), ltB_ofLb bVs_bare⟩
          | 2 => have e := Option.some.inj hi; subst e; exact .inr ⟨_, rfl, SubQ.ofL rfl bVs_bare (.inl rfl), ltB_ofLb bVs_bare⟩
          | 3 => have e := Option.some.inj hi; subst e; first | exact .inl rfl | exact .inr ⟨_, rfl, SubQ.defd, trivial⟩
          | 4 => have e := Option.some.inj hi; subst e; first | exact .inl rfl | exact .inr ⟨_, rfl, SubQ.defd, trivial⟩
          | 5 => have e := Option.some.inj hi; subst e; first | exact .inl rfl | exact .inr ⟨_, rfl, SubQ.defd, trivial⟩
          | 6 => have e := Option.some.inj hi; subst e; first | exact .inl rfl | exact .inr ⟨_, rfl, SubQ.defd, trivial⟩
          | 7 => have e := Option.some.inj hi; subst e; first | exact .inl rfl | exact .inr ⟨_, rfl, SubQ.defd, trivial⟩
          | i + 8 => cases hi
        · intro i j bi bj hi hj _ _ he
          exact rho1_inj (n := 8) (by decide) (List.getElem?_eq_some_iff.1 hi).1 (List.getElem?_eq_some_iff.1 hj).1 he
  · refine DropQ.of_hp rfl rfl (fun i hi => nomatch hi) (show 1 ≤ 8 by decide) (fun i hi _ => rfl) (fun l hl => nomatch hl) ?_ ?_ (fun i j _ _ _ _ _ _ he => he)
    · intro p hp
      simp only [List.mem_cons, List.not_mem_nil, or_false] at hp
      rcases hp with rfl | rfl | rfl
      · exact ⟨rfl, rfl⟩
      · exact ⟨rfl, rfl⟩
      · exact ⟨rfl, rfl⟩
    · intro i b hi
      match i with
      | 0 => have e := Option.some.inj hi; subst e; exact .inr ⟨_, rfl, SubQ.ofL rfl iVs_bare (.inl rfl), ltB_ofLb iVs_bare⟩
      | 1 => have e := Option.some.inj hi; subst e; exact .inr ⟨_, rfl, SubQ.ofL rfl bVs_bare (.inl rfl), ltB_ofLb bVs_bare⟩
      | 2 => have e := Option.some.inj hi; subst e; exact .inr ⟨_, rfl, SubQ.ofL rfl bVs_bare (.inl rfl), ltB_ofLb bVs_bare⟩
      | 3 => exact .inl (Option.some.inj hi).symm
      | 4 => exact .inl (Option.some.inj hi).symm
      | 5 => exact .inl (Option.some.inj hi).symm
      | 6 => exact .inl (Option.some.inj hi).symm
      | 7 => exact .inl (Option.some.inj hi).symm
      | i + 8 => cases hi
end Go.Proofs.P

namespace Go.Proofs.P
open Go.As
set_option maxRecDepth 20000
set_option linter.unusedVariables false
set_option linter.unusedSimpArgs false

/-! ### The list of what is reached -/

def selL (B : List Bool) (i : Nat) : List Int := ((List.range i).filter fun m => B.getD m false).map Int.ofNat
theorem selL_len (B : List Bool) (i : Nat) : (selL B i).length ≤ i := by
  unfold selL
  rw [List.length_map]
  refine Nat.le_trans (List.length_filter_le _ _) ?_
  simp
theorem selL_succ (B : List Bool) (i : Nat) : selL B (i + 1) = match B.getD i false with | true => selL B i ++ [Int.ofNat i] | false => selL B i := by
  unfold selL
  rw [List.range_succ, List.filter_append, List.map_append]
  have e : [i].filter (fun m => B.getD m false) = match B.getD i false with | true => [i] | false => [] := by
    cases h : B.getD i false with
    | true => exact List.filter_cons_of_pos (p := fun m => B.getD m false) h
    | false => exact List.filter_cons_of_neg (p := fun m => B.getD m false) (by rw [h]; decide)
  rw [e]
  cases B.getD i false with
  | true => rfl
  | false => exact List.append_nil _
def rchL (Kn : List Nat) : List Int := selL (reachB Kn) 8
theorem reachB_len {K : List Int} {Kn : List Nat} (hK : Kd K Kn) (hk : akB (-1) K = true) : (reachB Kn).length = 8 := by
  rw [reach4 hK hk, stepB_len, stepB_len, stepB_len, stepB_len]; rfl

set_option maxHeartbeats 4000000 in
theorem reachedP_ok (h : H) (K : List Int) (Kn : List Nat) (hK : Kd K Kn) (hk : akB (-1) K = true) (kv : V) (hs : SlC h (iVs K) K.length kv) :
    CallOk Try.prog 33 [kv] h (.tup [grV h.n (rchL Kn).length, .int .i64 0]) (addBs h (growB (rchL Kn))) := by
  have hlr := reachB_len hK hk
  obtain ⟨vo, svC, hsv, hca, hvw⟩ := hs.view 0
  have hB := @iVs_bare K
  refine CallOk.runN Try.func33 rfl rfl (argsC := [svC]) (fun N => .tup [grV N (rchL Kn).length, .int .i64 0]) (fun _ => growB (rchL Kn)) (Nat.le_of_ble_eq_true rfl) [vo] (.cons (hca _ rfl) .nil) (viewMc1 hB hvw)
    (ShV.tup (.cons (growSh _ _ _ _) (.cons (.bare rfl) .nil))) rfl (growBs _ _ _ _) (WpR.of_vc ?_)
  have kR := fun h' kv hs' => reachedFor_ok h' K Kn hK hk kv hs'
  unfold rchL
  generalize reachB Kn = B at *
  obtain ⟨b0, b1, b2, b3, b4, b5, b6, b7, rfl⟩ := ex8 hlr
  have hMap : ∀ l : List Int, ltB 7 (.cells (ofL [grV 6 l.length] 0) true none) := fun l => ltB_ofL (fun v hv => by rw [List.mem_singleton] at hv; subst hv; exact grV_lt rfl _)
  have hMap2 : ∀ l : List Int, ltB 7 (grB 1 (iVs l) l.length) := fun l => grB_lt iVs_bare _
  have hL0 : K.length ≤ 9223372036854775807 := by have := hK.len; rw [hK.eq, List.length_map]; omega
  cases hsv
  all_goals
    (conv => whnf); (repeat' (first | ((with_reducible refine ifb_mk (fun hc => ?_) (fun hc => ?_)) <;> ((try simp only [decide_eq_true_eq, decide_eq_false_iff_not, Bool.not_eq_true', Bool.not_eq_false', Int.not_lt, Int.not_le, ne_eq, Decidable.not_not, beq_iff_eq, List.cons.injEq, and_true] at hc); (first | (exfalso; omega) | conv => whnf))) | ((with_reducible refine And.intro True.intro ?_); conv => whnf) | ((with_reducible refine CallX.all ?_); refine CallW.of_ok (kR _ _ (by first | exact SlC.own rfl | exact iNil (by omega))) ?_; conv => whnf) | ((with_reducible refine CallX.all (f := 65) ?_); refine CallW.inline Try.func65 rfl rfl (Nat.le_of_ble_eq_true rfl) (WpR.of_vc ?_); conv => whnf) | ((with_reducible refine CallX.all (f := 64) ?_); refine CallW.inline Try.func64 rfl rfl (Nat.le_of_ble_eq_true rfl) (WpR.of_vc ?_); conv => whnf) | ((with_reducible refine CallX.all (f := 100) ?_); refine CallW.inline Try.func100 rfl rfl (Nat.le_of_ble_eq_true rfl) (WpR.of_vc ?_); conv => whnf) | ((with_reducible refine RangeX.all ?_); conv => whnf) | ((with_reducible refine CallW.inline (f := 101) Try.func101 rfl rfl (Nat.le_of_ble_eq_true rfl) (WpR.of_vc ?_)); conv => whnf) | ((with_reducible refine And.intro ?hh ?_); (case hh => (unfold InR; (try dsimp only); omega)); conv => whnf) | ((with_reducible refine And.intro ?hh ?_); (case hh => ((try dsimp only); omega)); conv => whnf) | ((with_reducible refine And.intro ?hh ?_); (case hh => ((conv => whnf); (repeat' (first | exact True.intro | rfl | refine And.intro ?_ ?_)); done)); conv => whnf) | fail))
    refine WpR.loopD (ι := Nat × List Int) [] [0, 1] [3, 6] [] 7 (fun p => [(4, .int .i64 p.1)]) (fun p => [(3, .cells (ofL [grV 6 p.2.length] 0) true none), (6, grB 1 (iVs p.2) p.2.length)]) (fun p => 8 - p.1) (fun p => p.1 ≤ 8 ∧ p.2 = selL [b0, b1, b2, b3, b4, b5, b6, b7] p.1) ?_ ((0, [])) (⟨Nat.zero_le _, rfl⟩) [] ⟨rfl, rfl, (by (repeat' (first | exact True.intro | rfl | refine And.intro ?_ ?_))), (by (repeat' (first | exact True.intro | rfl | refine And.intro ?_ ?_))), (by (repeat' (first | exact True.intro | rfl | refine And.intro ?_ ?_))), (by (repeat' (first | exact True.intro | exact Or.inl rfl | refine And.intro ?_ ?_ | refine Or.inr ⟨_, rfl, ?_⟩ | exact SubQ.same (n := 1000) (Y := []) (fun _ _ _ => rfl) (by first | exact True.intro | exact ltB_all rfl | exact ltB_ofLb (by first | exact bare0_ints | assumption | exact bVs_bare | exact iVs_bare | exact mVs_bare | (intro v hv; (repeat (rcases List.mem_cons.1 hv with rfl | hv; exact rfl)); cases hv)) | exact ltB_loop rfl rfl | exact hMap _ | exact hMap2 _ | exact grB_lt (by first | exact bare0_ints | assumption | exact bVs_bare | exact iVs_bare | exact mVs_bare | (intro v hv; (repeat (rcases List.mem_cons.1 hv with rfl | hv; exact rfl)); cases hv)) _ | exact ltB_encL | exact ltB_map0 | assumption) (avB_nil _) rfl | exact SubQ.ofL (by first | rfl | simp) (by first | exact bare0_ints | assumption | exact bVs_bare | exact iVs_bare | exact mVs_bare | (intro v hv; (repeat (rcases List.mem_cons.1 hv with rfl | hv; exact rfl)); cases hv)) (by first | exact Or.inl rfl | exact Or.inr rfl) | exact SubQ.fin (by (conv => whnf); (repeat' (first | exact True.intro | rfl | refine And.intro ?_ ?_)); done) (fun h => h) (by first | exact Or.inl rfl | exact Or.inr rfl)))), rfl, rfl⟩ rfl rfl rfl (fun _ => rfl) (by (repeat' (first | exact True.intro | refine And.intro ?_ ?_ | exact avV_nil _ | rfl))) (by (repeat' (first | exact True.intro | (with_reducible exact avB_nil _) | ((with_reducible refine avB_all ?_); rfl) | ((with_reducible refine avB_ofLb ?_); exact (by first | exact bare0_ints | assumption | exact bVs_bare | exact iVs_bare | exact mVs_bare | (intro v hv; (repeat (rcases List.mem_cons.1 hv with rfl | hv; exact rfl)); cases hv))) | ((with_reducible refine ltB_all ?_); rfl) | ((with_reducible refine ltB_ofLb ?_); exact (by first | exact bare0_ints | assumption | exact bVs_bare | exact iVs_bare | exact mVs_bare | (intro v hv; (repeat (rcases List.mem_cons.1 hv with rfl | hv; exact rfl)); cases hv))) | ((with_reducible refine ltB_loop ?_ ?_) <;> rfl) | (with_reducible exact hMap _) | (with_reducible exact hMap2 _) | (with_reducible exact ltB_encL) | (with_reducible exact ltB_map0) | ((with_reducible refine grB_lt ?_ _); exact (by first | exact bare0_ints | assumption | exact bVs_bare | exact iVs_bare | exact mVs_bare | (intro v hv; (repeat (rcases List.mem_cons.1 hv with rfl | hv; exact rfl)); cases hv))) | (with_reducible assumption) | refine And.intro ?_ ?_ | exact (by first | exact True.intro | exact ltB_all rfl | exact ltB_ofLb (by first | exact bare0_ints | assumption | exact bVs_bare | exact iVs_bare | exact mVs_bare | (intro v hv; (repeat (rcases List.mem_cons.1 hv with rfl | hv; exact rfl)); cases hv)) | exact ltB_loop rfl rfl | exact hMap _ | exact hMap2 _ | exact grB_lt (by first | exact bare0_ints | assumption | exact bVs_bare | exact iVs_bare | exact mVs_bare | (intro v hv; (repeat (rcases List.mem_cons.1 hv with rfl | hv; exact rfl)); cases hv)) _ | exact ltB_encL | exact ltB_map0 | assumption)))) (fun _ _ => (by (repeat' (first | exact True.intro | rfl | refine And.intro ?_ ?_ | exact (by decide) | exact (by first | exact True.intro | exact hMap _ | exact hMap2 _ | exact grB_lt (by first | exact bare0_ints | assumption | exact bVs_bare | exact iVs_bare | exact mVs_bare | (intro v hv; (repeat (rcases List.mem_cons.1 hv with rfl | hv; exact rfl)); cases hv)) _ | exact ltB_all rfl | exact ltB_ofLb (by first | exact bare0_ints | assumption | exact bVs_bare | exact iVs_bare | exact mVs_bare | (intro v hv; (repeat (rcases List.mem_cons.1 hv with rfl | hv; exact rfl)); cases hv)) | exact ltB_loop rfl rfl | exact ltB_encL | exact ltB_map0 | assumption))))) (fun _ _ => (by (repeat' (first | exact True.intro | rfl | refine And.intro ?_ ?_ | exact (by decide) | exact (by first | exact True.intro | exact hMap _ | exact hMap2 _ | exact grB_lt (by first | exact bare0_ints | assumption | exact bVs_bare | exact iVs_bare | exact mVs_bare | (intro v hv; (repeat (rcases List.mem_cons.1 hv with rfl | hv; exact rfl)); cases hv)) _ | exact ltB_all rfl | exact ltB_ofLb (by first | exact bare0_ints | assumption | exact bVs_bare | exact iVs_bare | exact mVs_bare | (intro v hv; (repeat (rcases List.mem_cons.1 hv with rfl | hv; exact rfl)); cases hv)) | exact ltB_loop rfl rfl | exact ltB_encL | exact ltB_map0 | assumption))))) (fun _ _ => (by (repeat' (first | exact True.intro | rfl | refine And.intro ?_ ?_)))) rfl
    rintro ⟨i, l⟩ ⟨j1, j2⟩
    dsimp only at j1 j2
    refine WpR.of_vc ?_
    by_cases hi : i < 8
    · obtain ⟨bi, hbi⟩ : ∃ bi, [b0, b1, b2, b3, b4, b5, b6, b7][i]? = some bi := ⟨_, List.getElem?_eq_getElem hi⟩
      have kS := fun h' => has8_ok h' [b0, b1, b2, b3, b4, b5, b6, b7] rfl i bi hbi
      have hs1 := selL_succ [b0, b1, b2, b3, b4, b5, b6, b7] i
      have hlen := selL_len [b0, b1, b2, b3, b4, b5, b6, b7] i
      rw [← j2, List.getD_eq_getElem?_getD, hbi] at hs1
      rw [← j2] at hlen
      cases bi with
      | false =>
        have hs2 : selL [b0, b1, b2, b3, b4, b5, b6, b7] (i + 1) = l := hs1
        cases l with
        | nil =>
          (conv => whnf); (repeat' (first | ((with_reducible refine ifb_mk (fun hc => ?_) (fun hc => ?_)) <;> ((try simp only [decide_eq_true_eq, decide_eq_false_iff_not, Bool.not_eq_true', Bool.not_eq_false', Int.not_lt, Int.not_le, ne_eq, Decidable.not_not, beq_iff_eq, List.cons.injEq, and_true] at hc); (first | (exfalso; omega) | conv => whnf))) | ((with_reducible refine And.intro True.intro ?_); conv => whnf) | ((with_reducible refine CallX.all ?_); refine CallW.of_ok (kS _) ?_; conv => whnf) | ((with_reducible refine And.intro ?hh ?_); (case hh => (unfold InR; (try dsimp only); omega)); conv => whnf) | ((with_reducible refine And.intro ?hh ?_); (case hh => ((try dsimp only); omega)); conv => whnf) | ((with_reducible refine And.intro ?hh ?_); (case hh => ((conv => whnf); (repeat' (first | exact True.intro | rfl | refine And.intro ?_ ?_)); done)); conv => whnf) | fail))
          exact ⟨(i + 1, []), [], by dsimp only; omega, ⟨by dsimp only; omega, hs2.symm⟩, ⟨rfl, rfl, (by (repeat' (first | exact True.intro | rfl | refine And.intro ?_ ?_))), (by (repeat' (first | exact True.intro | rfl | refine And.intro ?_ ?_))), (by (repeat' (first | exact True.intro | rfl | refine And.intro ?_ ?_))), (by (repeat' (first | exact True.intro | exact Or.inl rfl | refine And.intro ?_ ?_ | refine Or.inr ⟨_, rfl, ?_⟩ | exact SubQ.same (n := 1000) (Y := []) (fun _ _ _ => rfl) (by first | exact True.intro | exact ltB_all rfl | exact ltB_ofLb (by first | exact bare0_ints | assumption | exact bVs_bare | exact iVs_bare | exact mVs_bare | (intro v hv; (repeat (rcases List.mem_cons.1 hv with rfl | hv; exact rfl)); cases hv)) | exact ltB_loop rfl rfl | exact hMap _ | exact hMap2 _ | exact grB_lt (by first | exact bare0_ints | assumption | exact bVs_bare | exact iVs_bare | exact mVs_bare | (intro v hv; (repeat (rcases List.mem_cons.1 hv with rfl | hv; exact rfl)); cases hv)) _ | exact ltB_encL | exact ltB_map0 | assumption) (avB_nil _) rfl | exact SubQ.ofL (by first | rfl | simp) (by first | exact bare0_ints | assumption | exact bVs_bare | exact iVs_bare | exact mVs_bare | (intro v hv; (repeat (rcases List.mem_cons.1 hv with rfl | hv; exact rfl)); cases hv)) (by first | exact Or.inl rfl | exact Or.inr rfl) | exact SubQ.fin (by (conv => whnf); (repeat' (first | exact True.intro | rfl | refine And.intro ?_ ?_)); done) (fun h => h) (by first | exact Or.inl rfl | exact Or.inr rfl)))), rfl, rfl⟩⟩
        | cons x t =>
          (conv => whnf); (repeat' (first | ((with_reducible refine ifb_mk (fun hc => ?_) (fun hc => ?_)) <;> ((try simp only [decide_eq_true_eq, decide_eq_false_iff_not, Bool.not_eq_true', Bool.not_eq_false', Int.not_lt, Int.not_le, ne_eq, Decidable.not_not, beq_iff_eq, List.cons.injEq, and_true] at hc); (first | (exfalso; omega) | conv => whnf))) | ((with_reducible refine And.intro True.intro ?_); conv => whnf) | ((with_reducible refine CallX.all ?_); refine CallW.of_ok (kS _) ?_; conv => whnf) | ((with_reducible refine And.intro ?hh ?_); (case hh => (unfold InR; (try dsimp only); omega)); conv => whnf) | ((with_reducible refine And.intro ?hh ?_); (case hh => ((try dsimp only); omega)); conv => whnf) | ((with_reducible refine And.intro ?hh ?_); (case hh => ((conv => whnf); (repeat' (first | exact True.intro | rfl | refine And.intro ?_ ?_)); done)); conv => whnf) | fail))
          exact ⟨(i + 1, x :: t), [], by dsimp only; omega, ⟨by dsimp only; omega, hs2.symm⟩, ⟨rfl, rfl, (by (repeat' (first | exact True.intro | rfl | refine And.intro ?_ ?_))), (by (repeat' (first | exact True.intro | rfl | refine And.intro ?_ ?_))), (by (repeat' (first | exact True.intro | rfl | refine And.intro ?_ ?_))), (by (repeat' (first | exact True.intro | exact Or.inl rfl | refine And.intro ?_ ?_ | refine Or.inr ⟨_, rfl, ?_⟩ | exact SubQ.same (n := 1000) (Y := []) (fun _ _ _ => rfl) (by first | exact True.intro | exact ltB_all rfl | exact ltB_ofLb (by first | exact bare0_ints | assumption | exact bVs_bare | exact iVs_bare | exact mVs_bare | (intro v hv; (repeat (rcases List.mem_cons.1 hv with rfl | hv; exact rfl)); cases hv)) | exact ltB_loop rfl rfl | exact hMap _ | exact hMap2 _ | exact grB_lt (by first | exact bare0_ints | assumption | exact bVs_bare | exact iVs_bare | exact mVs_bare | (intro v hv; (repeat (rcases List.mem_cons.1 hv with rfl | hv; exact rfl)); cases hv)) _ | exact ltB_encL | exact ltB_map0 | assumption) (avB_nil _) rfl | exact SubQ.ofL (by first | rfl | simp) (by first | exact bare0_ints | assumption | exact bVs_bare | exact iVs_bare | exact mVs_bare | (intro v hv; (repeat (rcases List.mem_cons.1 hv with rfl | hv; exact rfl)); cases hv)) (by first | exact Or.inl rfl | exact Or.inr rfl) | exact SubQ.fin (by (conv => whnf); (repeat' (first | exact True.intro | rfl | refine And.intro ?_ ?_)); done) (fun h => h) (by first | exact Or.inl rfl | exact Or.inr rfl)))), rfl, rfl⟩⟩
      | true =>
        have hs2 : selL [b0, b1, b2, b3, b4, b5, b6, b7] (i + 1) = l ++ [Int.ofNat i] := hs1
        cases l with
        | nil =>
          rw [List.nil_append] at hs2
          (conv => whnf); (repeat' (first | ((with_reducible refine ifb_mk (fun hc => ?_) (fun hc => ?_)) <;> ((try simp only [decide_eq_true_eq, decide_eq_false_iff_not, Bool.not_eq_true', Bool.not_eq_false', Int.not_lt, Int.not_le, ne_eq, Decidable.not_not, beq_iff_eq, List.cons.injEq, and_true] at hc); (first | (exfalso; omega) | conv => whnf))) | ((with_reducible refine And.intro True.intro ?_); conv => whnf) | ((with_reducible refine CallX.all ?_); refine CallW.of_ok (kS _) ?_; conv => whnf) | ((with_reducible refine And.intro ?hh ?_); (case hh => (unfold InR; (try dsimp only); omega)); conv => whnf) | ((with_reducible refine And.intro ?hh ?_); (case hh => ((try dsimp only); omega)); conv => whnf) | ((with_reducible refine And.intro ?hh ?_); (case hh => ((conv => whnf); (repeat' (first | exact True.intro | rfl | refine And.intro ?_ ?_)); done)); conv => whnf) | fail))
          refine YldX.all ?_
          refine YldW.inline rfl rfl rfl (WpR.of_vc ?_)
          conv => whnf
          refine ⟨rfl, _, rfl, rfl, WpR.of_vc ?_⟩
          (conv => whnf); (repeat' (first | ((with_reducible refine ifb_mk (fun hc => ?_) (fun hc => ?_)) <;> ((try simp only [decide_eq_true_eq, decide_eq_false_iff_not, Bool.not_eq_true', Bool.not_eq_false', Int.not_lt, Int.not_le, ne_eq, Decidable.not_not, beq_iff_eq, List.cons.injEq, and_true] at hc); (first | (exfalso; omega) | conv => whnf))) | ((with_reducible refine And.intro True.intro ?_); conv => whnf) | (refine AppX.nil (n := 1) Nat.zero_lt_one (Nat.le_of_ble_eq_true rfl) ?_; conv => whnf) | ((with_reducible refine And.intro ?hh ?_); (case hh => (unfold InR; (try dsimp only); omega)); conv => whnf) | ((with_reducible refine And.intro ?hh ?_); (case hh => ((try dsimp only); omega)); conv => whnf) | ((with_reducible refine And.intro ?hh ?_); (case hh => ((conv => whnf); (repeat' (first | exact True.intro | rfl | refine And.intro ?_ ?_)); done)); conv => whnf) | fail))
          refine ⟨_, _, rfl, ?_⟩
          (conv => whnf); (repeat' (first | ((with_reducible refine ifb_mk (fun hc => ?_) (fun hc => ?_)) <;> ((try simp only [decide_eq_true_eq, decide_eq_false_iff_not, Bool.not_eq_true', Bool.not_eq_false', Int.not_lt, Int.not_le, ne_eq, Decidable.not_not, beq_iff_eq, List.cons.injEq, and_true] at hc); (first | (exfalso; omega) | conv => whnf))) | ((with_reducible refine And.intro True.intro ?_); conv => whnf) | ((with_reducible refine And.intro ?hh ?_); (case hh => (unfold InR; (try dsimp only); omega)); conv => whnf) | ((with_reducible refine And.intro ?hh ?_); (case hh => ((try dsimp only); omega)); conv => whnf) | ((with_reducible refine And.intro ?hh ?_); (case hh => ((conv => whnf); (repeat' (first | exact True.intro | rfl | refine And.intro ?_ ?_)); done)); conv => whnf) | fail))
          exact ⟨(i + 1, [Int.ofNat i]), [(6, 8)], by dsimp only; omega, ⟨by dsimp only; omega, hs2.symm⟩, ⟨rfl, rfl, (by (repeat' (first | exact True.intro | rfl | refine And.intro ?_ ?_))), (by (repeat' (first | exact True.intro | rfl | refine And.intro ?_ ?_))), (by (repeat' (first | exact True.intro | rfl | refine And.intro ?_ ?_))), (by (repeat' (first | exact True.intro | exact Or.inl rfl | refine And.intro ?_ ?_ | refine Or.inr ⟨_, rfl, ?_⟩ | exact SubQ.same (n := 1000) (Y := []) (fun _ _ _ => rfl) (by first | exact True.intro | exact ltB_all rfl | exact ltB_ofLb (by first | exact bare0_ints | assumption | exact bVs_bare | exact iVs_bare | exact mVs_bare | (intro v hv; (repeat (rcases List.mem_cons.1 hv with rfl | hv; exact rfl)); cases hv)) | exact ltB_loop rfl rfl | exact hMap _ | exact hMap2 _ | exact grB_lt (by first | exact bare0_ints | assumption | exact bVs_bare | exact iVs_bare | exact mVs_bare | (intro v hv; (repeat (rcases List.mem_cons.1 hv with rfl | hv; exact rfl)); cases hv)) _ | exact ltB_encL | exact ltB_map0 | assumption) (avB_nil _) rfl | exact SubQ.ofL (by first | rfl | simp) (by first | exact bare0_ints | assumption | exact bVs_bare | exact iVs_bare | exact mVs_bare | (intro v hv; (repeat (rcases List.mem_cons.1 hv with rfl | hv; exact rfl)); cases hv)) (by first | exact Or.inl rfl | exact Or.inr rfl) | exact SubQ.fin (by (conv => whnf); (repeat' (first | exact True.intro | rfl | refine And.intro ?_ ?_)); done) (fun h => h) (by first | exact Or.inl rfl | exact Or.inr rfl)))), rfl, rfl⟩⟩
        | cons x t =>
          rw [List.length_cons] at hlen
          (conv => whnf); (repeat' (first | ((with_reducible refine ifb_mk (fun hc => ?_) (fun hc => ?_)) <;> ((try simp only [decide_eq_true_eq, decide_eq_false_iff_not, Bool.not_eq_true', Bool.not_eq_false', Int.not_lt, Int.not_le, ne_eq, Decidable.not_not, beq_iff_eq, List.cons.injEq, and_true] at hc); (first | (exfalso; omega) | conv => whnf))) | ((with_reducible refine And.intro True.intro ?_); conv => whnf) | ((with_reducible refine CallX.all ?_); refine CallW.of_ok (kS _) ?_; conv => whnf) | ((with_reducible refine And.intro ?hh ?_); (case hh => (unfold InR; (try dsimp only); omega)); conv => whnf) | ((with_reducible refine And.intro ?hh ?_); (case hh => ((try dsimp only); omega)); conv => whnf) | ((with_reducible refine And.intro ?hh ?_); (case hh => ((conv => whnf); (repeat' (first | exact True.intro | rfl | refine And.intro ?_ ?_)); done)); conv => whnf) | fail))
          refine YldX.all ?_
          refine YldW.inline rfl rfl rfl (WpR.of_vc ?_)
          conv => whnf
          refine ⟨rfl, _, rfl, rfl, WpR.of_vc ?_⟩
          (conv => whnf); (repeat' (first | ((with_reducible refine ifb_mk (fun hc => ?_) (fun hc => ?_)) <;> ((try simp only [decide_eq_true_eq, decide_eq_false_iff_not, Bool.not_eq_true', Bool.not_eq_false', Int.not_lt, Int.not_le, ne_eq, Decidable.not_not, beq_iff_eq, List.cons.injEq, and_true] at hc); (first | (exfalso; omega) | conv => whnf))) | ((with_reducible refine And.intro True.intro ?_); conv => whnf) | (refine AppX.own (n := 1) (L := iVs (x :: t)) (len := t.length + 1) rfl (iVs_length (x :: t)) (iVs_one _) Nat.zero_lt_one (by omega) ?_; conv => whnf) | ((with_reducible refine And.intro ?hh ?_); (case hh => (unfold InR; (try dsimp only); omega)); conv => whnf) | ((with_reducible refine And.intro ?hh ?_); (case hh => ((try dsimp only); omega)); conv => whnf) | ((with_reducible refine And.intro ?hh ?_); (case hh => ((conv => whnf); (repeat' (first | exact True.intro | rfl | refine And.intro ?_ ?_)); done)); conv => whnf) | fail))
          refine ⟨_, _, rfl, ?_⟩
          (conv => whnf); (repeat' (first | ((with_reducible refine ifb_mk (fun hc => ?_) (fun hc => ?_)) <;> ((try simp only [decide_eq_true_eq, decide_eq_false_iff_not, Bool.not_eq_true', Bool.not_eq_false', Int.not_lt, Int.not_le, ne_eq, Decidable.not_not, beq_iff_eq, List.cons.injEq, and_true] at hc); (first | (exfalso; omega) | conv => whnf))) | ((with_reducible refine And.intro True.intro ?_); conv => whnf) | ((with_reducible refine And.intro ?hh ?_); (case hh => (unfold InR; (try dsimp only); omega)); conv => whnf) | ((with_reducible refine And.intro ?hh ?_); (case hh => ((try dsimp only); omega)); conv => whnf) | ((with_reducible refine And.intro ?hh ?_); (case hh => ((conv => whnf); (repeat' (first | exact True.intro | rfl | refine And.intro ?_ ?_)); done)); conv => whnf) | fail))
          have hB4 : ∀ v ∈ iVs (x :: t) ++ [.int .i64 (Int.ofNat i)], bare0 v = true := fun v hv => by
            have e : iVs ((x :: t) ++ [Int.ofNat i]) = iVs (x :: t) ++ [.int .i64 (Int.ofNat i)] := by unfold iVs; rw [List.map_append]; rfl
            rw [← e] at hv; exact iVs_bare v hv
          refine ⟨(i + 1, (x :: t) ++ [Int.ofNat i]), [(6, 8)], by dsimp only; omega, ⟨by dsimp only; omega, hs2.symm⟩, ?_⟩
          dsimp only
          rw [grB_snoc, grV_snoc]
          exact ⟨rfl, rfl, (by (repeat' (first | exact True.intro | rfl | refine And.intro ?_ ?_))), (by (repeat' (first | exact True.intro | rfl | refine And.intro ?_ ?_))), (by (repeat' (first | exact True.intro | rfl | refine And.intro ?_ ?_))), (by (repeat' (first | exact True.intro | exact Or.inl rfl | refine And.intro ?_ ?_ | refine Or.inr ⟨_, rfl, ?_⟩ | exact SubQ.same (n := 1000) (Y := []) (fun _ _ _ => rfl) (by first | exact True.intro | exact ltB_all rfl | exact ltB_ofLb (by first | exact bare0_ints | assumption | exact bVs_bare | exact iVs_bare | exact mVs_bare | (intro v hv; (repeat (rcases List.mem_cons.1 hv with rfl | hv; exact rfl)); cases hv)) | exact ltB_loop rfl rfl | exact hMap _ | exact hMap2 _ | exact grB_lt (by first | exact bare0_ints | assumption | exact bVs_bare | exact iVs_bare | exact mVs_bare | (intro v hv; (repeat (rcases List.mem_cons.1 hv with rfl | hv; exact rfl)); cases hv)) _ | exact ltB_encL | exact ltB_map0 | assumption) (avB_nil _) rfl | exact SubQ.ofL (by first | rfl | simp) (by first | exact bare0_ints | assumption | exact bVs_bare | exact iVs_bare | exact mVs_bare | (intro v hv; (repeat (rcases List.mem_cons.1 hv with rfl | hv; exact rfl)); cases hv)) (by first | exact Or.inl rfl | exact Or.inr rfl) | exact SubQ.fin (by (conv => whnf); (repeat' (first | exact True.intro | rfl | refine And.intro ?_ ?_)); done) (fun h => h) (by first | exact Or.inl rfl | exact Or.inr rfl)))), rfl, rfl⟩
    · have e : i = 8 := by omega
      subst e
      rw [← j2]
      cases l with
      | nil =>
        (conv => whnf); (repeat' (first | ((with_reducible refine ifb_mk (fun hc => ?_) (fun hc => ?_)) <;> ((try simp only [decide_eq_true_eq, decide_eq_false_iff_not, Bool.not_eq_true', Bool.not_eq_false', Int.not_lt, Int.not_le, ne_eq, Decidable.not_not, beq_iff_eq, List.cons.injEq, and_true] at hc); (first | (exfalso; omega) | conv => whnf))) | ((with_reducible refine And.intro True.intro ?_); conv => whnf) | ((with_reducible refine And.intro ?hh ?_); (case hh => (unfold InR; (try dsimp only); omega)); conv => whnf) | ((with_reducible refine And.intro ?hh ?_); (case hh => ((try dsimp only); omega)); conv => whnf) | ((with_reducible refine And.intro ?hh ?_); (case hh => ((conv => whnf); (repeat' (first | exact True.intro | rfl | refine And.intro ?_ ?_)); done)); conv => whnf) | fail))
        all_goals exact ⟨[], rfl, rfl, rfl, trivial, (by (repeat' (first | exact True.intro | rfl | refine And.intro ?_ ?_)))⟩
      | cons x t =>
        (conv => whnf); (repeat' (first | ((with_reducible refine ifb_mk (fun hc => ?_) (fun hc => ?_)) <;> ((try simp only [decide_eq_true_eq, decide_eq_false_iff_not, Bool.not_eq_true', Bool.not_eq_false', Int.not_lt, Int.not_le, ne_eq, Decidable.not_not, beq_iff_eq, List.cons.injEq, and_true] at hc); (first | (exfalso; omega) | conv => whnf))) | ((with_reducible refine And.intro True.intro ?_); conv => whnf) | ((with_reducible refine And.intro ?hh ?_); (case hh => (unfold InR; (try dsimp only); omega)); conv => whnf) | ((with_reducible refine And.intro ?hh ?_); (case hh => ((try dsimp only); omega)); conv => whnf) | ((with_reducible refine And.intro ?hh ?_); (case hh => ((conv => whnf); (repeat' (first | exact True.intro | rfl | refine And.intro ?_ ?_)); done)); conv => whnf) | fail))
        all_goals exact ⟨[6], rfl, rfl, rfl, ⟨⟨_, rfl, rfl, SubQ.ofL rfl iVs_bare (.inr rfl)⟩, ltB_ofLb iVs_bare, rfl, trivial⟩, (by (repeat' (first | exact True.intro | rfl | refine And.intro ?_ ?_)))⟩
end Go.Proofs.P

namespace Go.Proofs.P
open Go.As
set_option maxRecDepth 20000
set_option linter.unusedVariables false
set_option linter.unusedSimpArgs false

/-! ### Lists are compared -/

def c3 (a b : Int) : Int := if a < b then -1 else if b < a then 1 else 0
def lexC : List Int → List Int → Int
  | a :: A, b :: B => if c3 a b = 0 then lexC A B else c3 a b
  | _, _ => 0
theorem isNaN_ok (h : H) (a : Int) : CallOk Try.prog 109 [.int .i64 a] h (.bool false) h := by
  refine CallOk.run0 Try.func109 rfl rfl rfl rfl rfl (WpR.of_vc ?_)
  (conv => whnf); (repeat' (first | ((with_reducible refine ifb_mk (fun hc => ?_) (fun hc => ?_)) <;> ((try simp only [decide_eq_true_eq, decide_eq_false_iff_not, Bool.not_eq_true', Bool.not_eq_false', Int.not_lt, Int.not_le, ne_eq, Decidable.not_not, beq_iff_eq, List.cons.injEq, and_true] at hc); (first | (exfalso; omega) | conv => whnf))) | ((with_reducible refine And.intro True.intro ?_); conv => whnf) | ((with_reducible refine And.intro ?hh ?_); (case hh => (unfold InR; (try dsimp only); omega)); conv => whnf) | ((with_reducible refine And.intro ?hh ?_); (case hh => ((try dsimp only); omega)); conv => whnf) | ((with_reducible refine And.intro ?hh ?_); (case hh => ((conv => whnf); (repeat' (first | exact True.intro | rfl | refine And.intro ?_ ?_)); done)); conv => whnf) | fail))
  (refine ⟨[], ?_, rfl, rfl, trivial, (by (repeat' (first | exact True.intro | rfl | refine And.intro ?_ ?_)))⟩; simp only [renV, renL]; (first | done | rfl | simp | grind))
theorem compare_ok (h : H) (a b : Int) : CallOk Try.prog 93 [.int .i64 a, .int .i64 b] h (.int .i64 (c3 a b)) h := by
  have k1 := fun h' => isNaN_ok h' a
  have k2 := fun h' => isNaN_ok h' b
  unfold c3
  refine CallOk.run0 Try.func93 rfl rfl rfl rfl rfl (WpR.of_vc ?_)
  (conv => whnf); (repeat' (first | ((with_reducible refine ifb_mk (fun hc => ?_) (fun hc => ?_)) <;> ((try simp only [decide_eq_true_eq, decide_eq_false_iff_not, Bool.not_eq_true', Bool.not_eq_false', Int.not_lt, Int.not_le, ne_eq, Decidable.not_not, beq_iff_eq, List.cons.injEq, and_true] at hc); (first | (exfalso; omega) | conv => whnf))) | ((with_reducible refine And.intro True.intro ?_); conv => whnf) | ((with_reducible refine CallX.all ?_); refine CallW.of_ok (k1 _) ?_; conv => whnf) | ((with_reducible refine CallX.all ?_); refine CallW.of_ok (k2 _) ?_; conv => whnf) | ((with_reducible refine And.intro ?hh ?_); (case hh => (unfold InR; (try dsimp only); omega)); conv => whnf) | ((with_reducible refine And.intro ?hh ?_); (case hh => ((try dsimp only); omega)); conv => whnf) | ((with_reducible refine And.intro ?hh ?_); (case hh => ((conv => whnf); (repeat' (first | exact True.intro | rfl | refine And.intro ?_ ?_)); done)); conv => whnf) | fail))
  · rw [if_pos hc]; (refine ⟨[], ?_, rfl, rfl, trivial, (by (repeat' (first | exact True.intro | rfl | refine And.intro ?_ ?_)))⟩; simp only [renV, renL]; (first | done | rfl | simp | grind))
  · rename_i hc0; rw [if_neg (by omega), if_pos hc]; (refine ⟨[], ?_, rfl, rfl, trivial, (by (repeat' (first | exact True.intro | rfl | refine And.intro ?_ ?_)))⟩; simp only [renV, renL]; (first | done | rfl | simp | grind))
  · rename_i hc0; rw [if_neg (by omega), if_neg (by omega)]; (refine ⟨[], ?_, rfl, rfl, trivial, (by (repeat' (first | exact True.intro | rfl | refine And.intro ?_ ?_)))⟩; simp only [renV, renL]; (first | done | rfl | simp | grind))
theorem c3_range (a b : Int) : -1 ≤ c3 a b ∧ c3 a b ≤ 1 := by unfold c3; split <;> (try split) <;> decide
theorem lexC_range : ∀ (A B : List Int), -1 ≤ lexC A B ∧ lexC A B ≤ 1
  | a :: A, b :: B => by
    unfold lexC
    split
    · exact lexC_range A B
    · exact c3_range a b
  | [], [] => by unfold lexC; decide
  | [], _ :: _ => by unfold lexC; decide
  | _ :: _, [] => by unfold lexC; decide
set_option maxHeartbeats 2000000 in
theorem slCompare_ok (h : H) (A B : List Int) (b1 o1 c1 : Nat) (e1 : Bool) (b2 o2 c2 : Nat) (e2 : Bool) (h0 : 1 ≤ A.length) (hl : A.length ≤ 9223372036854775807) (hl2 : A.length = B.length) (h1 : SlC h (iVs A) A.length (.sl b1 o1 A.length c1 e1)) (h2 : SlC h (iVs B) B.length (.sl b2 o2 B.length c2 e2)) :
    CallOk Try.prog 107 [.sl b1 o1 A.length c1 e1, .sl b2 o2 B.length c2 e2] h (.int .i64 (lexC A B)) h := by
  obtain ⟨v1, s1, q1, ca1, w1⟩ := h1.view 0
  obtain ⟨v2, s2, q2, ca2, w2⟩ := h2.view 1
  obtain ⟨cp1, ex1, rfl⟩ : ∃ cap ex, s1 = .sl 0 0 A.length cap ex := by
    cases q1 with
    | nil h0 => omega
    | sl => exact ⟨_, _, rfl⟩
  obtain ⟨cp2, ex2, rfl⟩ : ∃ cap ex, s2 = .sl 1 0 B.length cap ex := by
    cases q2 with
    | nil h0 => omega
    | sl => exact ⟨_, _, rfl⟩
  have hB1 := @iVs_bare A
  have hB2 := @iVs_bare B
  refine CallOk.run Try.func107 rfl rfl (argsC := [.sl 0 0 A.length cp1 ex1, .sl 1 0 B.length cp2 ex2]) (Nat.le_of_ble_eq_true rfl) [v1, v2] (.cons (ca1 _ rfl) (.cons (ca2 _ rfl) .nil)) (viewMc2 iVs_bare w1 iVs_bare w2) rfl (WpR.of_vc ?_)
  (conv => whnf); (repeat' (first | ((with_reducible refine ifb_mk (fun hc => ?_) (fun hc => ?_)) <;> ((try simp only [decide_eq_true_eq, decide_eq_false_iff_not, Bool.not_eq_true', Bool.not_eq_false', Int.not_lt, Int.not_le, ne_eq, Decidable.not_not, beq_iff_eq, List.cons.injEq, and_true] at hc); (first | (exfalso; omega) | conv => whnf))) | ((with_reducible refine And.intro True.intro ?_); conv => whnf) | ((with_reducible refine And.intro ?hh ?_); (case hh => (unfold InR; (try dsimp only); omega)); conv => whnf) | ((with_reducible refine And.intro ?hh ?_); (case hh => ((try dsimp only); omega)); conv => whnf) | ((with_reducible refine And.intro ?hh ?_); (case hh => ((conv => whnf); (repeat' (first | exact True.intro | rfl | refine And.intro ?_ ?_)); done)); conv => whnf) | fail))
  show WpR Try.prog _ _ _ _ ⟨_, _, _, ⟨_, 2, 0⟩⟩ _
  refine WpR.loopD (ι := Nat) [] [0, 1, 9, 10] [] [] 2 (fun i => [(11, .int .i64 i)]) (fun _ => []) (fun i => A.length - i) (fun i => i ≤ A.length ∧ lexC A B = lexC (A.drop i) (B.drop i)) ?_ (0) (⟨Nat.zero_le _, rfl⟩) [] ⟨rfl, rfl, (by (repeat' (first | exact True.intro | rfl | refine And.intro ?_ ?_))), (by (repeat' (first | exact True.intro | rfl | refine And.intro ?_ ?_))), (by (repeat' (first | exact True.intro | rfl | refine And.intro ?_ ?_))), (by (repeat' (first | exact True.intro | exact Or.inl rfl | refine And.intro ?_ ?_ | refine Or.inr ⟨_, rfl, ?_⟩ | exact SubQ.same (n := 1000) (Y := []) (fun _ _ _ => rfl) (by first | exact True.intro | exact ltB_all rfl | exact ltB_ofLb (by first | exact bare0_ints | assumption | exact bVs_bare | exact iVs_bare | exact mVs_bare | (intro v hv; (repeat (rcases List.mem_cons.1 hv with rfl | hv; exact rfl)); cases hv)) | exact ltB_loop rfl rfl | exact hMap _ | exact hMap2 _ | exact grB_lt (by first | exact bare0_ints | assumption | exact bVs_bare | exact iVs_bare | exact mVs_bare | (intro v hv; (repeat (rcases List.mem_cons.1 hv with rfl | hv; exact rfl)); cases hv)) _ | exact ltB_encL | exact ltB_map0 | assumption) (avB_nil _) rfl | exact SubQ.ofL (by first | rfl | simp) (by first | exact bare0_ints | assumption | exact bVs_bare | exact iVs_bare | exact mVs_bare | (intro v hv; (repeat (rcases List.mem_cons.1 hv with rfl | hv; exact rfl)); cases hv)) (by first | exact Or.inl rfl | exact Or.inr rfl) | exact SubQ.fin (by (conv => whnf); (repeat' (first | exact True.intro | rfl | refine And.intro ?_ ?_)); done) (fun h => h) (by first | exact Or.inl rfl | exact Or.inr rfl)))), rfl, rfl⟩ rfl rfl rfl (fun _ => rfl) (by (repeat' (first | exact True.intro | refine And.intro ?_ ?_ | exact avV_nil _ | rfl))) (by (repeat' (first | exact True.intro | (with_reducible exact avB_nil _) | ((with_reducible refine avB_all ?_); rfl) | ((with_reducible refine avB_ofLb ?_); exact (by first | exact bare0_ints | assumption | exact bVs_bare | exact iVs_bare | exact mVs_bare | (intro v hv; (repeat (rcases List.mem_cons.1 hv with rfl | hv; exact rfl)); cases hv))) | ((with_reducible refine ltB_all ?_); rfl) | ((with_reducible refine ltB_ofLb ?_); exact (by first | exact bare0_ints | assumption | exact bVs_bare | exact iVs_bare | exact mVs_bare | (intro v hv; (repeat (rcases List.mem_cons.1 hv with rfl | hv; exact rfl)); cases hv))) | ((with_reducible refine ltB_loop ?_ ?_) <;> rfl) | (with_reducible exact hMap _) | (with_reducible exact hMap2 _) | (with_reducible exact ltB_encL) | (with_reducible exact ltB_map0) | ((with_reducible refine grB_lt ?_ _); exact (by first | exact bare0_ints | assumption | exact bVs_bare | exact iVs_bare | exact mVs_bare | (intro v hv; (repeat (rcases List.mem_cons.1 hv with rfl | hv; exact rfl)); cases hv))) | (with_reducible assumption) | refine And.intro ?_ ?_ | exact (by first | exact True.intro | exact ltB_all rfl | exact ltB_ofLb (by first | exact bare0_ints | assumption | exact bVs_bare | exact iVs_bare | exact mVs_bare | (intro v hv; (repeat (rcases List.mem_cons.1 hv with rfl | hv; exact rfl)); cases hv)) | exact ltB_loop rfl rfl | exact hMap _ | exact hMap2 _ | exact grB_lt (by first | exact bare0_ints | assumption | exact bVs_bare | exact iVs_bare | exact mVs_bare | (intro v hv; (repeat (rcases List.mem_cons.1 hv with rfl | hv; exact rfl)); cases hv)) _ | exact ltB_encL | exact ltB_map0 | assumption)))) (fun _ _ => (by (repeat' (first | exact True.intro | rfl | refine And.intro ?_ ?_ | exact (by decide) | exact (by first | exact True.intro | exact hMap _ | exact hMap2 _ | exact grB_lt (by first | exact bare0_ints | assumption | exact bVs_bare | exact iVs_bare | exact mVs_bare | (intro v hv; (repeat (rcases List.mem_cons.1 hv with rfl | hv; exact rfl)); cases hv)) _ | exact ltB_all rfl | exact ltB_ofLb (by first | exact bare0_ints | assumption | exact bVs_bare | exact iVs_bare | exact mVs_bare | (intro v hv; (repeat (rcases List.mem_cons.1 hv with rfl | hv; exact rfl)); cases hv)) | exact ltB_loop rfl rfl | exact ltB_encL | exact ltB_map0 | assumption))))) (fun _ _ => (by (repeat' (first | exact True.intro | rfl | refine And.intro ?_ ?_ | exact (by decide) | exact (by first | exact True.intro | exact hMap _ | exact hMap2 _ | exact grB_lt (by first | exact bare0_ints | assumption | exact bVs_bare | exact iVs_bare | exact mVs_bare | (intro v hv; (repeat (rcases List.mem_cons.1 hv with rfl | hv; exact rfl)); cases hv)) _ | exact ltB_all rfl | exact ltB_ofLb (by first | exact bare0_ints | assumption | exact bVs_bare | exact iVs_bare | exact mVs_bare | (intro v hv; (repeat (rcases List.mem_cons.1 hv with rfl | hv; exact rfl)); cases hv)) | exact ltB_loop rfl rfl | exact ltB_encL | exact ltB_map0 | assumption))))) (fun _ _ => (by (repeat' (first | exact True.intro | rfl | refine And.intro ?_ ?_)))) rfl
  rintro i ⟨j1, j2⟩
  refine WpR.of_vc ?_
  cases hx : A[i]? with
  | some x =>
    have hlt := (List.getElem?_eq_some_iff.1 hx).1
    obtain ⟨y, hy⟩ : ∃ y, B[i]? = some y := ⟨_, List.getElem?_eq_getElem (by omega)⟩
    have kC := fun h' => compare_ok h' x y
    rw [drop_at hx, drop_at hy] at j2
    have j3 : lexC A B = if c3 x y = 0 then lexC (A.drop (i + 1)) (B.drop (i + 1)) else c3 x y := j2
    generalize c3 x y = z at *
    (conv => whnf); (repeat' (first | ((with_reducible refine ifb_mk (fun hc => ?_) (fun hc => ?_)) <;> ((try simp only [decide_eq_true_eq, decide_eq_false_iff_not, Bool.not_eq_true', Bool.not_eq_false', Int.not_lt, Int.not_le, ne_eq, Decidable.not_not, beq_iff_eq, List.cons.injEq, and_true] at hc); (first | (exfalso; omega) | conv => whnf))) | ((with_reducible refine And.intro True.intro ?_); conv => whnf) | ((with_reducible refine grd_get ?_); refine som_mk (a := ?_) ?hh ?_; (case hh => exact iGet hx); conv => whnf) | ((with_reducible refine grd_get ?_); refine som_mk (a := ?_) ?hh ?_; (case hh => exact iGet hy); conv => whnf) | ((with_reducible refine CallX.all ?_); refine CallW.of_ok (kC _) ?_; conv => whnf) | ((with_reducible refine And.intro ?hh ?_); (case hh => (unfold InR; (try dsimp only); omega)); conv => whnf) | ((with_reducible refine And.intro ?hh ?_); (case hh => ((try dsimp only); omega)); conv => whnf) | ((with_reducible refine And.intro ?hh ?_); (case hh => ((conv => whnf); (repeat' (first | exact True.intro | rfl | refine And.intro ?_ ?_)); done)); conv => whnf) | fail))
    · rw [if_neg hc] at j3; rw [j3]; (refine ⟨[], ?_, rfl, rfl, trivial, (by (repeat' (first | exact True.intro | rfl | refine And.intro ?_ ?_)))⟩; simp only [renV, renL]; (first | done | rfl | simp | grind))
    · rw [if_pos hc] at j3
      exact ⟨i + 1, [], by omega, ⟨by omega, j3⟩, ⟨rfl, rfl, (by (repeat' (first | exact True.intro | rfl | refine And.intro ?_ ?_))), (by (repeat' (first | exact True.intro | rfl | refine And.intro ?_ ?_))), (by (repeat' (first | exact True.intro | rfl | refine And.intro ?_ ?_))), (by (repeat' (first | exact True.intro | exact Or.inl rfl | refine And.intro ?_ ?_ | refine Or.inr ⟨_, rfl, ?_⟩ | exact SubQ.same (n := 1000) (Y := []) (fun _ _ _ => rfl) (by first | exact True.intro | exact ltB_all rfl | exact ltB_ofLb (by first | exact bare0_ints | assumption | exact bVs_bare | exact iVs_bare | exact mVs_bare | (intro v hv; (repeat (rcases List.mem_cons.1 hv with rfl | hv; exact rfl)); cases hv)) | exact ltB_loop rfl rfl | exact hMap _ | exact hMap2 _ | exact grB_lt (by first | exact bare0_ints | assumption | exact bVs_bare | exact iVs_bare | exact mVs_bare | (intro v hv; (repeat (rcases List.mem_cons.1 hv with rfl | hv; exact rfl)); cases hv)) _ | exact ltB_encL | exact ltB_map0 | assumption) (avB_nil _) rfl | exact SubQ.ofL (by first | rfl | simp) (by first | exact bare0_ints | assumption | exact bVs_bare | exact iVs_bare | exact mVs_bare | (intro v hv; (repeat (rcases List.mem_cons.1 hv with rfl | hv; exact rfl)); cases hv)) (by first | exact Or.inl rfl | exact Or.inr rfl) | exact SubQ.fin (by (conv => whnf); (repeat' (first | exact True.intro | rfl | refine And.intro ?_ ?_)); done) (fun h => h) (by first | exact Or.inl rfl | exact Or.inr rfl)))), rfl, rfl⟩⟩
  | none =>
    have hlen : A.length ≤ i := by simpa using hx
    rw [List.drop_eq_nil_of_le hlen, List.drop_eq_nil_of_le (show B.length ≤ i by omega)] at j2
    have j3 : lexC A B = 0 := j2
    rw [j3]
    (conv => whnf); (repeat' (first | ((with_reducible refine ifb_mk (fun hc => ?_) (fun hc => ?_)) <;> ((try simp only [decide_eq_true_eq, decide_eq_false_iff_not, Bool.not_eq_true', Bool.not_eq_false', Int.not_lt, Int.not_le, ne_eq, Decidable.not_not, beq_iff_eq, List.cons.injEq, and_true] at hc); (first | (exfalso; omega) | conv => whnf))) | ((with_reducible refine And.intro True.intro ?_); conv => whnf) | ((with_reducible refine And.intro ?hh ?_); (case hh => (unfold InR; (try dsimp only); omega)); conv => whnf) | ((with_reducible refine And.intro ?hh ?_); (case hh => ((try dsimp only); omega)); conv => whnf) | ((with_reducible refine And.intro ?hh ?_); (case hh => ((conv => whnf); (repeat' (first | exact True.intro | rfl | refine And.intro ?_ ?_)); done)); conv => whnf) | fail))
    (refine ⟨[], ?_, rfl, rfl, trivial, (by (repeat' (first | exact True.intro | rfl | refine And.intro ?_ ?_)))⟩; simp only [renV, renL]; (first | done | rfl | simp | grind))

set_option maxHeartbeats 2000000 in
theorem compareMoved_ok (h : H) (n x y : Nat) (hn : 1 ≤ n ∧ n ≤ 8) (hx : x < 8) (hy : y < 8) (D : List Int) (hD : D.length = n * n) (l : List V) (hl : ∀ v ∈ l, bare0 v = true) (b o cap : Nat) (ex : Bool) (hs : SlC h l D.length (.sl b o D.length cap ex)) (j : Nat) (hj : h.get j = some (.map (esP n D (nzL D)) D.length)) :
    CallOk Try.prog 88 [tabV n (.sl b o D.length cap ex) j, nV x, nV y] h (.int .i64 (lexC (movL n x D) (movL n y D))) h := by
  obtain ⟨vo, svC, hsv, hca, hvw⟩ := hs.view 0
  have hN : 1 ≤ D.length ∧ D.length ≤ 64 := by
    rw [hD]
    have h1 : 1 * 1 ≤ n * n := Nat.mul_le_mul hn.1 hn.1
    have h2 : n * n ≤ 8 * 8 := Nat.mul_le_mul hn.2 hn.2
    omega
  obtain ⟨cap', ex', rfl⟩ : ∃ cap ex, svC = .sl 0 0 D.length cap ex := by
    cases hsv with
    | nil h0 => omega
    | sl => exact ⟨_, _, rfl⟩
  have hMap0 : ∀ e ∈ esP n D (nzL D), ltV 0 e.2.1 = true := fun e he => by obtain ⟨x, _, rfl⟩ := List.mem_map.1 he; rfl
  refine CallOk.run Try.func88 rfl rfl (argsC := [tabV n (.sl 0 0 D.length cap' ex') 1, .int .i64 x, .int .i64 y]) (Nat.le_of_ble_eq_true rfl) [vo, some (j, 0)] (.cons (CaL.agg (.cons (.bare rfl) (.cons (hca _ rfl) (.cons (.map rfl) .nil)))) (.cons (.bare rfl) (.cons (.bare rfl) .nil))) (viewMl hl hvw hj hMap0) rfl (WpR.of_vc ?_)
  have a1 := fun h' hs' hj' => moved_ok h' n x hn hx D hD l hl 0 0 cap' ex' hs' 1 hj'
  have a2 := fun h' hs' hj' => moved_ok h' n y hn hy D hD l hl 0 0 cap' ex' hs' 1 hj'
  have kC := fun h' b1 c1 e1 b2 c2 e2 g1 g2 => slCompare_ok h' (movL n x D) (movL n y D) b1 0 c1 e1 b2 0 c2 e2 (by rw [movL_len]; omega) (by rw [movL_len]; omega) (by rw [movL_len, movL_len]) g1 g2
  rw [movL_len, movL_len] at kC
  generalize movL n x D = A1 at *
  generalize movL n y D = A2 at *
  (conv => whnf); (repeat' (first | ((with_reducible refine ifb_mk (fun hc => ?_) (fun hc => ?_)) <;> ((try simp only [decide_eq_true_eq, decide_eq_false_iff_not, Bool.not_eq_true', Bool.not_eq_false', Int.not_lt, Int.not_le, ne_eq, Decidable.not_not, beq_iff_eq, List.cons.injEq, and_true] at hc); (first | (exfalso; omega) | conv => whnf))) | ((with_reducible refine And.intro True.intro ?_); conv => whnf) | ((with_reducible refine WpR.draw (id := 1) mixed [0, 1, 4, 5, 2, 3, 6, 7, 8, 9] [0, 0, 3, 7, 0, 0, 55, 119, 255, 511] ?hh ?_); (case hh => kernel_rfl); conv => whnf) | ((with_reducible refine grd_ex ?_); refine ex_new (vC := fun N => plateV n (.sl N 0 D.length D.length true)) (news := fun _ => [.cells (ofL (iVs A1) 0) true none]) (a1 _ (SlC.own rfl) rfl) ?_; conv => whnf) | ((with_reducible refine grd_ex ?_); refine ex_new (vC := fun N => plateV n (.sl N 0 D.length D.length true)) (news := fun _ => [.cells (ofL (iVs A2) 0) true none]) (a2 _ (SlC.own rfl) rfl) ?_; conv => whnf) | ((with_reducible refine grd_ex ?_); refine ex_ok (kC _ _ _ _ _ _ _ (SlC.own rfl) (SlC.own rfl)) ?_; conv => whnf) | ((with_reducible refine And.intro ?hh ?_); (case hh => (unfold InR; (try dsimp only); omega)); conv => whnf) | ((with_reducible refine And.intro ?hh ?_); (case hh => ((try dsimp only); omega)); conv => whnf) | ((with_reducible refine And.intro ?hh ?_); (case hh => ((conv => whnf); (repeat' (first | exact True.intro | rfl | refine And.intro ?_ ?_)); done)); conv => whnf) | fail))
  (refine ⟨[], ?_, rfl, rfl, trivial, (by (repeat' (first | exact True.intro | rfl | refine And.intro ?_ ?_)))⟩; simp only [renV, renL]; (first | done | rfl | simp | grind))
end Go.Proofs.P

namespace Go.Proofs.P
open Go.As
set_option maxRecDepth 20000
set_option linter.unusedVariables false
set_option linter.unusedSimpArgs false

/-! ### What is reached is closed -/

def frc : List Bool → (List Bool → Bool) → Bool
  | [], k => k []
  | b :: l, k => match b with
    | true => frc l fun l => k (true :: l)
    | false => frc l fun l => k (false :: l)
theorem frc_eq : ∀ (l : List Bool) (k : List Bool → Bool), frc l k = k l
  | [], k => rfl
  | true :: l, k => frc_eq l fun l => k (true :: l)
  | false :: l, k => frc_eq l fun l => k (false :: l)
def grpB (B : List Bool) : Bool := B.getD 0 false && (List.range 8).all fun a => !B.getD a false || (B.getD (invN a) false && (List.range 8).all fun b => !B.getD b false || B.getD (aftN a b) false)
def grpAll : Bool := (gen 8).all fun Kn => frc (reachB Kn) grpB
theorem grpAll_ok : grpAll = true := by kernel_rfl
structure Grp (B : List Bool) : Prop where
  zero : B.getD 0 false = true
  inv : ∀ a, a < 8 → B.getD a false = true → B.getD (invN a) false = true
  aft : ∀ a b, a < 8 → b < 8 → B.getD a false = true → B.getD b false = true → B.getD (aftN a b) false = true
theorem grp_of {B : List Bool} (h : grpB B = true) : Grp B := by
  unfold grpB at h
  rw [Bool.and_eq_true] at h
  have key : ∀ a, a < 8 → B.getD a false = true → B.getD (invN a) false = true ∧ ∀ b, b < 8 → B.getD b false = true → B.getD (aftN a b) false = true := fun a ha hB => by
    have h1 := all_range h.2 ha
    rw [hB, Bool.not_true, Bool.false_or, Bool.and_eq_true] at h1
    refine ⟨h1.1, fun b hb hB2 => ?_⟩
    have h2 := all_range h1.2 hb
    rw [hB2, Bool.not_true, Bool.false_or] at h2
    exact h2
  exact ⟨h.1, fun a ha hB => (key a ha hB).1, fun a b ha hb hB hB2 => (key a ha hB).2 b hb hB2⟩
theorem reach_grp {K : List Int} {Kn : List Nat} (hK : Kd K Kn) (hk : akB (-1) K = true) : Grp (reachB Kn) := by
  have h := List.all_eq_true.1 grpAll_ok Kn (kd_gen hK hk)
  rw [frc_eq] at h
  exact grp_of h

/-! ### The least form -/

def lst (n : Nat) (B : List Bool) (D : List Int) : Nat → Nat
  | 0 => 0
  | i + 1 => if B.getD i false = true ∧ lexC (movL n i D) (movL n (lst n B D i) D) < 0 then i else lst n B D i
theorem lst_lt (n : Nat) (B : List Bool) (D : List Int) : ∀ i, i ≤ 8 → lst n B D i < 8
  | 0, _ => Nat.zero_lt_succ _
  | i + 1, h => by
    unfold lst
    split
    · omega
    · exact lst_lt n B D i (by omega)
theorem c3_self (a : Int) : c3 a a = 0 := by unfold c3; rw [if_neg (by omega), if_neg (by omega)]
theorem lexC_self : ∀ A : List Int, lexC A A = 0
  | [] => rfl
  | a :: A => by unfold lexC; rw [c3_self, if_pos rfl]; exact lexC_self A

theorem ShV.fn {vs : Vw} {n0 N k : Nat} {f : FuncId} {a a' b b' : List V} (ha : ShL vs n0 N k a a') (hb : ShL vs n0 N k b b') : ShV vs n0 N k (.fn f a b) (.fn f a' b') := by
  intro m1 m2 hm x hx
  cases hx with
  | fn la h1 lb h2 =>
    have v1 := ha.vrs hm la h1
    have v2 := hb.vrs hm lb h2
    exact .fn v1.1 v1.2 v2.1 v2.2
def hasV (B : List Bool) : V := .fn 78 [.agg (bVs B)] []
theorem those_ok (h : H) (b0 b1 b2 b3 b4 b5 b6 b7 : Bool) : CallOk Try.prog 65 [hasV [b0, b1, b2, b3, b4, b5, b6, b7]] h (.fn 101 [] [.ptr h.n 0]) (addBs h [.cells (ofL [hasV [b0, b1, b2, b3, b4, b5, b6, b7]] 0) true none]) := by
  refine CallOk.runN Try.func65 rfl rfl (argsC := [hasV [b0, b1, b2, b3, b4, b5, b6, b7]]) (fun N => .fn 101 [] [.ptr N 0]) (fun _ => [.cells (ofL [hasV [b0, b1, b2, b3, b4, b5, b6, b7]] 0) true none]) (Nat.le_of_ble_eq_true rfl) [] (CaL.lt0 rfl) (viewM0 h)
    (ShV.fn .nil (.cons (.ptr (i := 0) (Nat.le_of_ble_eq_true rfl) rfl rfl) .nil)) rfl
    (fun i b hi => by
      match i with
      | 0 =>
        simp at hi; subst hi
        refine ⟨_, rfl, rfl, ShB.cells fun i v' hv' => ?_⟩
        rw [get_ofL, if_pos (Nat.zero_le _), Nat.sub_zero] at hv'
        match i with
        | 0 => have e := Option.some.inj hv'; subst e; exact ⟨rfl, _, rfl, .bare rfl⟩
        | i + 1 => cases hv'
      | i + 1 => simp at hi)
    (WpR.of_vc ?_)
  (conv => whnf); (repeat' (first | ((with_reducible refine ifb_mk (fun hc => ?_) (fun hc => ?_)) <;> ((try simp only [decide_eq_true_eq, decide_eq_false_iff_not, Bool.not_eq_true', Bool.not_eq_false', Int.not_lt, Int.not_le, ne_eq, Decidable.not_not, beq_iff_eq, List.cons.injEq, and_true] at hc); (first | (exfalso; omega) | conv => whnf))) | ((with_reducible refine And.intro True.intro ?_); conv => whnf) | ((with_reducible refine And.intro ?hh ?_); (case hh => (unfold InR; (try dsimp only); omega)); conv => whnf) | ((with_reducible refine And.intro ?hh ?_); (case hh => ((try dsimp only); omega)); conv => whnf) | ((with_reducible refine And.intro ?hh ?_); (case hh => ((conv => whnf); (repeat' (first | exact True.intro | rfl | refine And.intro ?_ ?_)); done)); conv => whnf) | fail))
  exact ⟨[0], rfl, rfl, rfl, ⟨⟨_, rfl, rfl, SubQ.fin (by (conv => whnf); (repeat' (first | exact True.intro | rfl | refine And.intro ?_ ?_)); done) (fun h => h) (.inl rfl)⟩, ltB_all rfl, rfl, trivial⟩, (by (repeat' (first | exact True.intro | rfl | refine And.intro ?_ ?_)))⟩
theorem leP_init : True := trivial
end Go.Proofs.P

namespace Go.Proofs.P
open Go.As
set_option maxRecDepth 20000
set_option linter.unusedVariables false
set_option linter.unusedSimpArgs false

/-! ### A call carried out where it stands, that leaves what was there as it was -/

def keptB (h h' : H) : Nat → Prop
  | 0 => True
  | i + 1 => (match h.get i with
    | some b => (match b.wr with
      | true => h'.get i = some b
      | false => True)
    | none => True) ∧ keptB h h' i
theorem keptB_at {h h' : H} : ∀ {n : Nat}, keptB h h' n → ∀ i b, i < n → h.get i = some b → b.wr = true → h'.get i = some b
  | n + 1, ⟨h1, h2⟩, i, b, hi, hb, hw => by
    by_cases he : i = n
    · subst he
      rw [hb] at h1
      dsimp only at h1
      rw [hw] at h1
      exact h1
    · exact keptB_at h2 i b (by omega) hb hw
theorem CallOk.of_same {P : Program} {f : FuncId} {args : List V} {h : H} {v : V} (hcw : CallW P [] f args h fun v' h' => v' = v ∧ keptB h h' h.n) (hv : bare v = true) : CallOk P f args h v h := by
  intro base m w xs hr hB hvs
  obtain ⟨hfn, hcall⟩ := hcw.out base m w xs hr hB hvs
  refine ⟨hfn, CallsIn.mono hcall ?_⟩
  rintro e w' ⟨v', h', m', x, ⟨rfl, hk⟩, rfl, hsw, hvx⟩
  have hext : Ext m m' := fun i p hp => by
    have hlt : i < h.n := Nat.lt_of_not_le (fun hc => by rw [hr.dom i hc] at hp; cases hp)
    rw [hsw.same i hlt (fun hc => by cases hc)]; exact hp
  refine ⟨m, x, rfl, ?_, hvx.of_bare hv⟩
  exact {
    ext := .refl m
    new := fun i p h1 h2 => by rw [h1] at h2; cases h2
    hr := {
      blk := fun i b r s hi hm => by
        have hlt := hr.lt i b hi
        cases hw : b.wr with
        | true => exact BR.back hext (hr.blk i b r s hi hm) (hsw.hr.blk i b r s (keptB_at hk i b hlt hi hw) (hext _ _ hm))
        | false =>
          cases hl : b.live with
          | false => cases b <;> first | trivial | cases hl
          | true =>
            rw [hsw.frame r (hr.rng i r s hm) (fun j bj s' hj hwj hmj => by
              have := hr.inj j i bj b r s' s hj hi hwj hl hmj hm
              subst this
              rw [hi] at hj
              cases hj
              rw [hw] at hwj
              cases hwj)]
            exact hr.blk i b r s hi hm
      inj := hr.inj
      own := hr.own
      rng := fun i r s hm => Nat.lt_of_lt_of_le (hr.rng i r s hm) hsw.size
      lt := hr.lt
      dom := hr.dom }
    n := Nat.le_refl _
    os := hsw.os
    tape := hsw.tape
    output := hsw.output
    size := hsw.size
    frame := hsw.frame
    fresh := fun i b r s hi hw hm => .inr ⟨i, b, s, hi, hw, hm⟩
    low := fun _ _ _ => rfl
    lowle := Nat.le_refl _
    keep := fun _ _ _ => rfl }
end Go.Proofs.P
