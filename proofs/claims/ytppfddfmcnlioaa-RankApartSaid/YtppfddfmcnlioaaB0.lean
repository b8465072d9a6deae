/- What the functions answer that the laws call, one after another (B0). -/
import Derived.Test.YtppfddfmcnlioaaAs6
import Derived.Test.YtppfddfmcnlioaaProg

set_option linter.unusedVariables false
namespace Go.Proofs.J
open Go.As
set_option maxRecDepth 20000
set_option linter.unusedVariables false
set_option linter.unusedSimpArgs false

/-! ### Equality of arrays of 16-bit numbers -/

namespace U16
/-- Of how many 16-bit numbers a type consists whose values are compared number by number. -/
def flatE (P : Program) : Nat → TypeId → Option Nat
  | 0, _ => none
  | n + 1, t => match P.underlying t with
    | some (.int .u16) => some 1
    | some (.struct fs) => (match P.stoodInHeld t with
      | true => none
      | false => flatEs P (flatE P n) fs.toList 0)
    | some (.array m e) => (match flatE P n e with
      | some k => (match (match sizeOf? P e with | some s => Nat.beq s k | none => false) with
        | true => some (m * k)
        | false => none)
      | none => none)
    | _ => none

def intVs (l : List Int) : List Value := l.map (Value.int .u16)

/-- A value of numbers: one alone, or an aggregate. -/
inductive FlatV (P : Program) (t : TypeId) (l : List Int) : Value → Prop
  | one {x : Int} (hu : P.underlying t = some (.int .u16)) (h : l = [x]) : FlatV P t l (.int .u16 x)
  | agg (ha : isAgg? P t = some true) : FlatV P t l (.agg (intVs l).toArray)

section
variable {P : Program}
theorem pure_equal_int {t : TypeId} {k : IntKind} (hu : P.underlying t = some (.int k)) (d : Nat) (a b : Int) : pureP P (Op.equalIn (d + 1) t (.int .u16 a) (.int .u16 b)) = some (a == b) := by
  unfold Op.equalIn
  rw [pureP_bind_eq, pureP_und hu]
  simp only [if_true]
  rfl

theorem isAgg_pure {t : TypeId} {b : Bool} (h : isAgg? P t = some b) : pureP P (isAgg t) = some b := by
  unfold isAgg? at h
  unfold isAgg
  split at h
  · rename_i h1; cases h; rw [pureP_bind_eq, pureP_und h1]; rfl
  · rename_i h1; cases h; rw [pureP_bind_eq, pureP_und h1]; rfl
  · rename_i d hd h1 h2
    cases h
    rw [pureP_bind_eq, pureP_und h2]
    dsimp only
    cases d <;> first | rfl | (exfalso; exact hd _ rfl) | (exfalso; exact h1 _ _ rfl)
  · cases h

theorem isAgg_int {t : TypeId} (h : P.underlying t = some (.int .u16)) : isAgg? P t = some false := by unfold isAgg?; rw [h]
theorem isAgg_struct {t : TypeId} {fs : Array Field} (h : P.underlying t = some (.struct fs)) : isAgg? P t = some true := by unfold isAgg?; rw [h]
theorem isAgg_array {t : TypeId} {m : Nat} {e : TypeId} (h : P.underlying t = some (.array m e)) : isAgg? P t = some true := by unfold isAgg?; rw [h]

/-- A part. -/
theorem flat_part {n : Nat} {t : TypeId} {k : Nat} (hf : flatE P n t = some k) (hs : (match sizeOf? P t with | some s => Nat.beq s k | none => false) = true) (l : List Int) (off : Nat) (hl : off + k ≤ l.length) :
    ∃ v, pureP P (part t (intVs l).toArray off) = some v ∧ FlatV P t ((l.drop off).take k) v := by
  have hsz : sizeOf? P t = some k := by
    split at hs
    · rename_i s h; rw [h, Nat.eq_of_beq_eq_true hs]
    · cases hs
  cases n with
  | zero => cases hf
  | succ n =>
    have agg : isAgg? P t = some true → ∃ v, pureP P (part t (intVs l).toArray off) = some v ∧ FlatV P t ((l.drop off).take k) v := by
      intro ha
      refine ⟨_, ?_, .agg ha⟩
      unfold part
      rw [pureP_bind_eq, isAgg_pure ha]
      dsimp only
      rw [if_pos rfl, pureP_bind_eq, pureP_size hsz]
      dsimp only
      rw [pureP_pure]
      congr 2
      apply Array.ext'
      simp only [intVs, List.map_take, List.map_drop]
      rw [Array.toList_extract, List.extract_eq_take_drop, show off + k - off = k from by omega]
    simp only [flatE] at hf
    split at hf
    · rename_i hu
      cases hf
      have hx : off < l.length := by omega
      refine ⟨.int .u16 l[off], ?_, .one hu ?_⟩
      · refine pure_part (isAgg_int hu) ?_
        simp [intVs, hx]
      · rw [List.drop_eq_getElem_cons hx]; rfl
    · rename_i fs hu; exact agg (isAgg_struct hu)
    · rename_i m e hu; exact agg (isAgg_array hu)
    · cases hf

theorem flatEs_all {g : TypeId → Option Nat} : ∀ (fs : List Field) (acc tot : Nat), flatEs P g fs acc = some tot → acc ≤ tot ∧ (∀ f ∈ fs, (f.name != "_") = true ∧ ∃ k, g f.type = some k ∧ (match sizeOf? P f.type with | some s => Nat.beq s k | none => false) = true ∧ f.offset + k ≤ tot) ∧
    ∀ (a b : List Int), a.length = tot → b.length = tot → ((∀ f ∈ fs, ∀ k, g f.type = some k → (a.drop f.offset).take k = (b.drop f.offset).take k) ↔ a.drop acc = b.drop acc)
  | [], acc, tot, h => by
    simp only [flatEs, Option.some.injEq] at h
    subst h
    refine ⟨Nat.le_refl _, fun f hf => by simp at hf, fun a b ha hb => ?_⟩
    rw [List.drop_eq_nil_of_le (by omega), List.drop_eq_nil_of_le (by omega)]
    simp
  | f :: fs, acc, tot, h => by
    simp only [flatEs] at h
    split at h
    · rename_i k hk
      split at h
      · rename_i hc
        simp only [Bool.and_eq_true] at hc
        obtain ⟨⟨h1, h2⟩, h3⟩ := hc
        have h2 := Nat.eq_of_beq_eq_true h2
        obtain ⟨g1, g2, g3⟩ := flatEs_all fs (acc + k) tot h
        refine ⟨by omega, fun f' hf' => ?_, fun a b ha hb => ?_⟩
        · rcases List.mem_cons.1 hf' with rfl | hf'
          · exact ⟨h1, k, hk, h3, by omega⟩
          · exact g2 f' hf'
        · have hsplit : ∀ x : List Int, x.drop acc = (x.drop f.offset).take k ++ x.drop (acc + k) := by
            intro x
            rw [h2, ← List.drop_drop, List.take_append_drop]
          have hlen : ((a.drop f.offset).take k).length = ((b.drop f.offset).take k).length := by simp; omega
          constructor
          · intro hall
            rw [hsplit a, hsplit b, hall f (by simp) k hk, (g3 a b ha hb).1 (fun f' hf' => hall f' (by simp [hf']))]
          · intro he f' hf' k' hk'
            rw [hsplit a, hsplit b] at he
            obtain ⟨e1, e2⟩ := List.append_inj he hlen
            rcases List.mem_cons.1 hf' with rfl | hf'
            · rw [hk] at hk'; cases hk'; exact e1
            · exact (g3 a b ha hb).2 e2 f' hf' k' hk'
      · cases h
    · cases h

theorem blocks_eq (k : Nat) : ∀ (m : Nat) (a b : List Int), a.length = m * k → b.length = m * k → ((∀ i, i < m → (a.drop (i * k)).take k = (b.drop (i * k)).take k) ↔ a = b)
  | 0, a, b, ha, hb => by
    have h1 : a = [] := List.eq_nil_of_length_eq_zero (by omega)
    have h2 : b = [] := List.eq_nil_of_length_eq_zero (by omega)
    subst h1; subst h2; simp
  | m + 1, a, b, ha, hb => by
    have hsplit : ∀ x : List Int, x = x.take k ++ x.drop k := fun x => (List.take_append_drop k x).symm
    have hm : (m + 1) * k = m * k + k := Nat.succ_mul m k
    have ih := blocks_eq k m (a.drop k) (b.drop k) (by simp; omega) (by simp; omega)
    constructor
    · intro h
      rw [hsplit a, hsplit b]
      have h0 := h 0 (by omega)
      simp only [Nat.zero_mul, List.drop_zero] at h0
      rw [h0, ih.1 (fun i hi => by
        have := h (i + 1) (by omega)
        rw [List.drop_drop, List.drop_drop]
        rw [show k + i * k = (i + 1) * k from by rw [Nat.succ_mul]; omega]
        exact this)]
    · intro h i _; rw [h]

theorem flat_equal : ∀ (n : Nat) (t : TypeId) (k : Nat), flatE P n t = some k → ∀ (d : Nat), n ≤ d → ∀ (a b : List Int), a.length = k → b.length = k → ∀ (x y : Value), FlatV P t a x → FlatV P t b y → pureP P (Op.equalIn d t x y) = some (decide (a = b))
  | 0, t, k, h, _, _, _, _, _, _, _, _, _, _ => by cases h
  | n + 1, t, k, h, d, hd, a, b, ha, hb, x, y, hx, hy => by
    obtain ⟨d, rfl⟩ : ∃ d', d = d' + 1 := ⟨d - 1, by omega⟩
    simp only [flatE] at h
    split at h
    · rename_i hu
      cases h
      have hna := isAgg_int hu
      cases hx with
      | agg h => rw [hna] at h; cases h
      | one _ h1 =>
        cases hy with
        | agg h => rw [hna] at h; cases h
        | one _ h2 =>
          subst h1; subst h2
          rw [pure_equal_int hu]
          simp; rfl
    · rename_i fs hu
      have hna := isAgg_struct hu
      split at h
      · cases h
      · rename_i hst
        obtain ⟨_, hfs, hall⟩ := flatEs_all fs.toList 0 k h
        cases hx with
        | one hu2 _ => rw [hu] at hu2; cases hu2
        | agg _ =>
          cases hy with
          | one hu2 _ => rw [hu] at hu2; cases hu2
          | agg _ =>
            unfold Op.equalIn
            rw [pureP_bind_eq, pureP_und hu]
            dsimp only
            rw [pureP_bind_eq]
            show (match some P with | some a => _ | none => none) = _
            dsimp only
            rw [hst]
            simp only [Bool.false_eq_true, if_false]
            rw [pureP_bind_eq, ← Array.forIn_toList]
            have hstep : ∀ f ∈ fs.toList, ∃ kf xv yv, flatE P n f.type = some kf ∧ pureP P (part f.type (intVs a).toArray f.offset) = some xv ∧ pureP P (part f.type (intVs b).toArray f.offset) = some yv ∧ f.name ≠ "_" ∧
                pureP P (Op.equalIn d f.type xv yv) = some (decide ((a.drop f.offset).take kf = (b.drop f.offset).take kf)) := by
              intro f hfm
              obtain ⟨h1, kf, h2, h3, h4⟩ := hfs f hfm
              obtain ⟨xv, hx1, hx2⟩ := flat_part h2 h3 a f.offset (by omega)
              obtain ⟨yv, hy1, hy2⟩ := flat_part h2 h3 b f.offset (by omega)
              exact ⟨kf, xv, yv, h2, hx1, hy1, by simpa using h1, flat_equal n f.type kf h2 d (by omega) _ _ (by simp; omega) (by simp; omega) xv yv hx2 hy2⟩
            rw [forIn_all (P := P) fs.toList (fun f => do let x ← part f.type (intVs a).toArray f.offset; let y ← part f.type (intVs b).toArray f.offset; Op.equalIn d f.type x y)
              (fun f => match flatE P n f.type with | some kf => decide ((a.drop f.offset).take kf = (b.drop f.offset).take kf) | none => true) ?_ _ ?_]
            · dsimp only
              have hiff : (fs.toList.all fun f => match flatE P n f.type with | some kf => decide ((a.drop f.offset).take kf = (b.drop f.offset).take kf) | none => true) = decide (a = b) := by
                rw [Bool.eq_iff_iff, List.all_eq_true, decide_eq_true_eq]
                have := hall a b ha hb
                simp only [List.drop_zero] at this
                rw [← this]
                constructor
                · intro h f hf kf hk
                  have := h f hf
                  rw [hk] at this
                  exact of_decide_eq_true this
                · intro h f hf
                  cases hk : flatE P n f.type with
                  | none => rfl
                  | some kf => exact decide_eq_true (h f hf kf hk)
              rw [hiff]
              by_cases hab : a = b
              · rw [decide_eq_true hab]; rfl
              · rw [decide_eq_false hab]; rfl
            · intro f hfm
              obtain ⟨kf, xv, yv, h1, h2, h3, h4, h5⟩ := hstep f hfm
              rw [pureP_bind_eq, h2]
              dsimp only
              rw [pureP_bind_eq, h3]
              dsimp only
              rw [h5, h1]
            · intro f hfm r
              obtain ⟨kf, xv, yv, h1, h2, h3, h4, h5⟩ := hstep f hfm
              rw [if_pos h4]
              rw [pureP_bind_eq, pureP_bind_eq, h2]
              dsimp only
              rw [pureP_bind_eq, pureP_bind_eq, h3]
              dsimp only
              rw [pureP_bind_eq, h5]
              by_cases hxy : (a.drop f.offset).take kf = (b.drop f.offset).take kf
              · simp [hxy, pureP_pure]
              · simp [hxy, pureP_pure]
    · rename_i m e hu
      have hna := isAgg_array hu
      split at h
      · rename_i ke hke
        split at h
        · rename_i hsz
          cases h
          have hse : sizeOf? P e = some ke := by
            split at hsz
            · rename_i s h; rw [h, Nat.eq_of_beq_eq_true hsz]
            · cases hsz
          cases hx with
          | one hu2 _ => rw [hu] at hu2; cases hu2
          | agg _ =>
            cases hy with
            | one hu2 _ => rw [hu] at hu2; cases hu2
            | agg _ =>
              unfold Op.equalIn
              rw [pureP_bind_eq, pureP_und hu]
              dsimp only
              rw [pureP_bind_eq, pureP_size hse]
              dsimp only
              rw [pureP_bind_eq]
              simp only [Std.Legacy.Range.forIn_eq_forIn_range', Std.Legacy.Range.size, Nat.sub_zero, Nat.add_one_sub_one, Nat.div_one]
              have hin : ∀ i, i ∈ List.range' 0 m → i * ke + ke ≤ m * ke := by
                intro i hi
                have hlt : i < m := by simp at hi; exact hi
                have := Nat.mul_le_mul_right ke (show i + 1 ≤ m from hlt)
                rw [Nat.succ_mul] at this; exact this
              have hstep : ∀ i ∈ List.range' 0 m, ∃ xv yv, pureP P (part e (intVs a).toArray (i * ke)) = some xv ∧ pureP P (part e (intVs b).toArray (i * ke)) = some yv ∧
                  pureP P (Op.equalIn d e xv yv) = some (decide ((a.drop (i * ke)).take ke = (b.drop (i * ke)).take ke)) := by
                intro i hi
                have hle := hin i hi
                obtain ⟨xv, hx1, hx2⟩ := flat_part hke hsz a (i * ke) (by omega)
                obtain ⟨yv, hy1, hy2⟩ := flat_part hke hsz b (i * ke) (by omega)
                exact ⟨xv, yv, hx1, hy1, flat_equal n e ke hke d (by omega) _ _ (by simp; omega) (by simp; omega) xv yv hx2 hy2⟩
              rw [forIn_all (P := P) (List.range' 0 m) (fun i => do let x ← part e (intVs a).toArray (i * ke); let y ← part e (intVs b).toArray (i * ke); Op.equalIn d e x y)
                (fun i => decide ((a.drop (i * ke)).take ke = (b.drop (i * ke)).take ke)) ?_ _ ?_]
              · dsimp only
                have hiff : ((List.range' 0 m).all fun i => decide ((a.drop (i * ke)).take ke = (b.drop (i * ke)).take ke)) = decide (a = b) := by
                  rw [Bool.eq_iff_iff, List.all_eq_true, decide_eq_true_eq, ← blocks_eq ke m a b ha hb]
                  constructor
                  · intro h i hi; exact of_decide_eq_true (h i (by simp; exact hi))
                  · intro h i hi; exact decide_eq_true (h i (by simp at hi; exact hi))
                rw [hiff]
                by_cases hab : a = b
                · rw [decide_eq_true hab]; rfl
                · rw [decide_eq_false hab]; rfl
              · intro i hi
                obtain ⟨xv, yv, h2, h3, h5⟩ := hstep i hi
                rw [pureP_bind_eq, h2]
                dsimp only
                rw [pureP_bind_eq, h3]
                dsimp only
                rw [h5]
              · intro i hi r
                obtain ⟨xv, yv, h2, h3, h5⟩ := hstep i hi
                rw [pureP_bind_eq, pureP_bind_eq, h2]
                dsimp only
                rw [pureP_bind_eq, pureP_bind_eq, h3]
                dsimp only
                rw [pureP_bind_eq, h5]
                by_cases hxy : (a.drop (i * ke)).take ke = (b.drop (i * ke)).take ke
                · simp [hxy, pureP_pure]
                · simp [hxy, pureP_pure]
        · cases h
      · cases h
    · cases h

theorem mapM_plain (a : List Int) : mapM' plain1 (a.map (V.int .u16)) = some (intVs a) := by
  induction a with
  | nil => rfl
  | cons x a ih => simp only [List.map_cons, mapM', plain1, ih, intVs]

/-- Is such a type compared number by number, with nothing to be asked? -/
def eqOk (P : Program) (t : TypeId) (k : Nat) : Bool := (match flatE P 6 t with | some j => Nat.beq j k | none => false) && (match isAgg? P t with | some b => b | none => false) && !(P.eqGuardType P.depth t)

theorem slow_agg (op : BinOp) (hop : op = .eql ∨ op = .neq) {t : TypeId} {k : Nat} (hk : eqOk P t k = true) {x y : Operand} (a b : List Int) (ha : a.length = k) (hb : b.length = k) :
    slow P op t x y (.agg (a.map (V.int .u16))) (.agg (b.map (V.int .u16))) = some (.bool (match op with | .eql => decide (a = b) | _ => !decide (a = b))) := by
  unfold eqOk at hk
  simp only [Bool.and_eq_true, Bool.not_eq_true'] at hk
  obtain ⟨⟨h1, h2⟩, h3⟩ := hk
  have hf : flatE P 6 t = some k := by
    split at h1
    · rename_i j hj; rw [hj, Nat.eq_of_beq_eq_true h1]
    · cases h1
  have hag : isAgg? P t = some true := by
    split at h2
    · rename_i j hj; rw [hj, h2]
    · cases h2
  have heq : pureP P (Op.equal t (.agg (intVs a).toArray) (.agg (intVs b).toArray)) = some (decide (a = b)) := by
    unfold Op.equal Op.maxDepth
    exact flat_equal 6 t k hf 10000 (by omega) a b ha hb _ _ (.agg hag) (.agg hag)
  unfold slow
  have hp : ∀ l : List Int, plain (.agg (l.map (V.int .u16))) = some (.agg (intVs l).toArray) := by
    intro l; unfold plain; dsimp only; rw [mapM_plain]
  rw [hp, hp]
  dsimp only
  have hg : pureP P (eqGuard op t x y (.agg (intVs a).toArray) (.agg (intVs b).toArray)) = some () := by
    unfold eqGuard
    rcases hop with rfl | rfl
    all_goals
      simp only [Bool.not_true, Bool.false_eq_true, if_false]
      rw [pureP_bind_eq]
      show (match some P with | some a => _ | none => none) = _
      dsimp only
      rw [pureP_bind_eq]
      show (match some P with | some a => _ | none => none) = _
      dsimp only
      rw [h3]
      rfl
  rw [pureP_bind_eq, hg]
  dsimp only
  rcases hop with rfl | rfl
  · show (match pureP P (do let r ← Op.equal t _ _; pure (Value.bool r)) with | some v => ofVal v | none => none) = _
    rw [pureP_bind_eq, heq]
    rfl
  · show (match pureP P (do let r ← Op.equal t _ _; pure (Value.bool !r)) with | some v => ofVal v | none => none) = _
    rw [pureP_bind_eq, heq]
    rfl

theorem slow_eql {t : TypeId} {k : Nat} (hk : eqOk P t k = true) {x y : Operand} (a b : List Int) (ha : a.length = k := by rfl) (hb : b.length = k := by rfl) : slow P .eql t x y (.agg (a.map (V.int .u16))) (.agg (b.map (V.int .u16))) = some (.bool (decide (a = b))) := slow_agg .eql (.inl rfl) hk a b ha hb
end
end U16
end Go.Proofs.J

namespace Go.Proofs.J
open Go.As
set_option maxRecDepth 20000
set_option linter.unusedVariables false
set_option linter.unusedSimpArgs false

/-! ### Groups: numbers of 16 bits -/

theorem wrap16 {r : Int} (h : 0 ≤ r ∧ r < 65536) : IntKind.u16.wrap r = r := by
  have e : IntKind.u16.wrap r = r % 65536 := by simp [IntKind.wrap, IntKind.bits, IntKind.signed]
  rw [e]; omega
section
variable {P : Program} {t : TypeId} {x y : Operand}
/-- What a has and b has not. -/
def anN (a b : Nat) : Nat := (BitVec.ofNat 16 a &&& ~~~BitVec.ofNat 16 b).toNat
theorem anN_lt (a b : Nat) : anN a b < 65536 := BitVec.isLt _
theorem anN_bit {a b : Nat} (i : Nat) (hi : i < 16) : (anN a b).testBit i = (a.testBit i && !b.testBit i) := by
  unfold anN
  rw [← BitVec.getLsbD, BitVec.getLsbD_and, BitVec.getLsbD_not, BitVec.getLsbD_ofNat, BitVec.getLsbD_ofNat]
  simp [hi]
theorem anN_zero {a b : Nat} (ha : a < 65536) : anN a b = 0 ↔ ∀ i, a.testBit i = true → b.testBit i = true := by
  have hb : ∀ i, 16 ≤ i → a.testBit i = false := fun i hi => Nat.testBit_lt_two_pow (Nat.lt_of_lt_of_le ha (Nat.pow_le_pow_right (n := 2) (by omega) hi))
  constructor
  · intro h i hi
    have h16 : i < 16 := by
      apply Classical.byContradiction
      intro hc
      rw [hb i (by omega)] at hi; cases hi
    have := anN_bit (a := a) (b := b) i h16
    rw [h, Nat.zero_testBit, hi, Bool.true_and] at this
    cases hbb : b.testBit i with
    | true => rfl
    | false => rw [hbb] at this; cases this
  · intro h
    refine Nat.eq_of_testBit_eq fun i => ?_
    rw [Nat.zero_testBit]
    by_cases h16 : i < 16
    · rw [anN_bit i h16]
      cases ha : a.testBit i with
      | false => rfl
      | true => rw [h i ha]; rfl
    · exact Nat.testBit_lt_two_pow (Nat.lt_of_lt_of_le (anN_lt a b) (Nat.pow_le_pow_right (n := 2) (by omega) (by omega : 16 ≤ i)))
end
/-! ### What a run leaves -/

theorem andRaw {a b : Nat} (ha : a < 65536) (hb : b < 65536) : IntKind.u16.wrap (((BitVec.ofInt IntKind.u16.bits (a : Int) &&& BitVec.ofInt IntKind.u16.bits (b : Int)).toNat : Nat) : Int) = ((a &&& b : Nat) : Int) := by
  have e : (BitVec.ofInt IntKind.u16.bits (a : Int) &&& BitVec.ofInt IntKind.u16.bits (b : Int)).toNat = a &&& b := by
    show (BitVec.ofInt 16 (a : Int) &&& BitVec.ofInt 16 (b : Int)).toNat = _
    rw [BitVec.toNat_and, BitVec.ofInt_natCast, BitVec.ofInt_natCast, BitVec.toNat_ofNat, BitVec.toNat_ofNat, Nat.mod_eq_of_lt ha, Nat.mod_eq_of_lt hb]
  have hlt : a &&& b < 65536 := Nat.lt_of_le_of_lt Nat.and_le_left ha
  rw [e]
  exact wrap16 ⟨by omega, by omega⟩
theorem orRaw {a b : Nat} (ha : a < 65536) (hb : b < 65536) : IntKind.u16.wrap (((BitVec.ofInt IntKind.u16.bits (a : Int) ||| BitVec.ofInt IntKind.u16.bits (b : Int)).toNat : Nat) : Int) = ((a ||| b : Nat) : Int) := by
  have e : (BitVec.ofInt IntKind.u16.bits (a : Int) ||| BitVec.ofInt IntKind.u16.bits (b : Int)).toNat = a ||| b := by
    show (BitVec.ofInt 16 (a : Int) ||| BitVec.ofInt 16 (b : Int)).toNat = _
    rw [BitVec.toNat_or, BitVec.ofInt_natCast, BitVec.ofInt_natCast, BitVec.toNat_ofNat, BitVec.toNat_ofNat, Nat.mod_eq_of_lt ha, Nat.mod_eq_of_lt hb]
  have hlt : a ||| b < 65536 := Nat.or_lt_two_pow (n := 16) ha hb
  rw [e]
  exact wrap16 ⟨by omega, by omega⟩
theorem anRaw {a b : Nat} : IntKind.u16.wrap (((BitVec.ofInt IntKind.u16.bits (a : Int) &&& ~~~BitVec.ofInt IntKind.u16.bits (b : Int)).toNat : Nat) : Int) = ((anN a b : Nat) : Int) := by
  have e : (BitVec.ofInt IntKind.u16.bits (a : Int) &&& ~~~BitVec.ofInt IntKind.u16.bits (b : Int)).toNat = anN a b := by
    show (BitVec.ofInt 16 (a : Int) &&& ~~~BitVec.ofInt 16 (b : Int)).toNat = _
    rw [BitVec.ofInt_natCast, BitVec.ofInt_natCast]; rfl
  have hlt := anN_lt a b
  rw [e]
  exact wrap16 ⟨by omega, by omega⟩
theorem shrRaw {a s : Nat} (hs : s < 16) : (a : Int).fdiv (2 ^ min (s : Int).toNat IntKind.u16.bits) = ((a >>> s : Nat) : Int) := by
  have hm : min (s : Int).toNat (IntKind.u16).bits = s := by show min (s : Int).toNat 16 = s; omega
  rw [hm, Int.fdiv_eq_ediv_of_nonneg _ (show (0 : Int) ≤ 2 ^ s from by have : (0 : Int) < 2 ^ s := Int.pow_pos (by decide); omega), Nat.shiftRight_eq_div_pow]
  simp
theorem shlRaw {s : Nat} (hs : s < 16) : IntKind.u16.wrap (1 * 2 ^ min (s : Int).toNat IntKind.u16.bits) = ((2 ^ s : Nat) : Int) := by
  have hp : 2 ^ s < 65536 := Nat.pow_lt_pow_right (a := 2) (by omega) hs
  have hm : min (s : Int).toNat (IntKind.u16).bits = s := by show min (s : Int).toNat 16 = s; omega
  rw [hm, Int.one_mul, show ((2 : Int) ^ s) = ((2 ^ s : Nat) : Int) from by simp]
  generalize 2 ^ s = z at *
  exact wrap16 ⟨by omega, by omega⟩
end Go.Proofs.J

namespace Go.Proofs.J
open Go.As
set_option maxRecDepth 20000
set_option linter.unusedVariables false
set_option linter.unusedSimpArgs false

theorem mixed : Try.prog.follows .mixedOrders = true := by kernel_rfl

/-! ### Lists -/

def iVs (l : List Int) : List V := l.map (V.int .i64)
theorem iVs_bare {l : List Int} : ∀ v ∈ iVs l, bare0 v = true := fun v h => by obtain ⟨x, _, rfl⟩ := List.mem_map.1 h; rfl
def bVs (l : List Bool) : List V := l.map V.bool
theorem bVs_bare {l : List Bool} : ∀ v ∈ bVs l, bare0 v = true := fun v h => by obtain ⟨x, _, rfl⟩ := List.mem_map.1 h; rfl
theorem iGet {l : List Int} {i : Nat} {x : Int} (h : l[i]? = some x) : (ofL (iVs l) 0).get (0 + (i : Int).toNat * 1) = some (.int .i64 x) := get_ofL0 (by unfold iVs; rw [List.getElem?_map]; simp [h])
theorem SlC.own {h : H} {L : List V} {b n cap : Nat} {ex w : Bool} {g : Option (Nat × Nat)} (hb : h.get b = some (.cells (ofL L 0) w g)) : SlC h L n (.sl b 0 n cap ex) :=
  SlC.sl hb (fun _ _ h => by rw [Nat.zero_add]; exact get_ofL0 h)
theorem drop_at {α : Type} {l : List α} {i : Nat} {x : α} (h : l[i]? = some x) : l.drop i = x :: l.drop (i + 1) := by
  obtain ⟨hi, rfl⟩ := List.getElem?_eq_some_iff.1 h
  exact List.drop_eq_getElem_cons hi
/-- all of the first n -/
def allF (n : Nat) (p : Nat → Bool) : Bool := (List.range n).all p
theorem allF_t {n : Nat} {p : Nat → Bool} (h : ∀ i, i < n → p i = true) : allF n p = true := List.all_eq_true.2 fun i hi => h i (List.mem_range.1 hi)
theorem allF_f {n i : Nat} {p : Nat → Bool} (h : i < n) (hp : p i = false) : allF n p = false := by
  rw [← Bool.not_eq_true]
  intro hc
  have := List.all_eq_true.1 hc i (List.mem_range.2 h)
  rw [hp] at this; cases this
theorem allF_iff {n : Nat} {p : Nat → Bool} : allF n p = true ↔ ∀ i, i < n → p i = true := ⟨fun h i hi => List.all_eq_true.1 h i (List.mem_range.2 hi), allF_t⟩
theorem below_succ {p : Nat → Bool} {i : Nat} (h : ∀ k, k < i → p k = true) (hi : p i = true) : ∀ k, k < i + 1 → p k = true := by
  intro k hk
  by_cases he : k = i
  · rw [he]; exact hi
  · exact h k (by omega)
/-- one of the first n -/
def anyF (n : Nat) (p : Nat → Bool) : Bool := !allF n fun i => !p i
theorem anyF_t {n i : Nat} {p : Nat → Bool} (h : i < n) (hp : p i = true) : anyF n p = true := by unfold anyF; rw [allF_f h (by rw [hp]; rfl)]; rfl
theorem anyF_f {n : Nat} {p : Nat → Bool} (h : ∀ i, i < n → p i = false) : anyF n p = false := by unfold anyF; rw [allF_t (fun i hi => by rw [h i hi]; rfl)]; rfl
theorem anyF_iff {n : Nat} {p : Nat → Bool} : anyF n p = true ↔ ∃ i, i < n ∧ p i = true := by
  constructor
  · intro h
    apply Classical.byContradiction
    intro hc
    have : anyF n p = false := anyF_f fun i hi => by
      cases hp : p i with
      | false => rfl
      | true => exact (hc ⟨i, hi, hp⟩).elim
    rw [h] at this; cases this
  · rintro ⟨i, hi, hp⟩; exact anyF_t hi hp

/-! ### Ranges -/

def wi (a b : Int) (L : List Int) : Bool := L.all fun x => decide (a ≤ x ∧ x ≤ b)
theorem within_ok (h : H) (a b : Int) (L : List Int) (sv : V) (hl : L.length ≤ 9223372036854775807) (hs : SlC h (iVs L) L.length sv) : CallOk Try.prog 55 [.int .i64 a, .int .i64 b, sv] h (.bool (wi a b L)) h := by
  obtain ⟨vo, svC, hsv, hca, hvw⟩ := hs.view 0
  refine CallOk.run Try.func55 rfl rfl (argsC := [.int .i64 a, .int .i64 b, svC]) (Nat.le_of_ble_eq_true rfl) [vo] (.cons (.bare rfl) (.cons (.bare rfl) (.cons (hca _ rfl) .nil))) (viewMc1 iVs_bare hvw) rfl (WpR.of_vc ?_)
  have hBare := @iVs_bare L
  cases hsv with
  | nil h0 =>
    have e : L = [] := List.eq_nil_of_length_eq_zero h0
    subst e
    (conv => whnf); (repeat' (first | ((with_reducible refine ifb_mk (fun hc => ?_) (fun hc => ?_)) <;> ((try simp only [decide_eq_true_eq, decide_eq_false_iff_not, Bool.not_eq_true', Bool.not_eq_false', Int.not_lt, Int.not_le, ne_eq, Decidable.not_not, beq_iff_eq, List.cons.injEq, and_true] at hc); (first | (exfalso; omega) | exact absurd True.intro hc | conv => whnf))) | ((with_reducible refine And.intro True.intro ?_); conv => whnf) | ((with_reducible refine WpR.loopU 2 ?_); conv => whnf) | ((with_reducible refine And.intro ?hh ?_); (case hh => exact condA); conv => whnf) | fail))
    (refine ⟨[], ?_, rfl, rfl, trivial, trivs⟩; simp only [renV, renL]; (first | done | rfl | (simp; done) | (simp; omega) | grind))
  | @sl cap ex =>
  (conv => whnf); (repeat' (first | ((with_reducible refine ifb_mk (fun hc => ?_) (fun hc => ?_)) <;> ((try simp only [decide_eq_true_eq, decide_eq_false_iff_not, Bool.not_eq_true', Bool.not_eq_false', Int.not_lt, Int.not_le, ne_eq, Decidable.not_not, beq_iff_eq, List.cons.injEq, and_true] at hc); (first | (exfalso; omega) | exact absurd True.intro hc | conv => whnf))) | ((with_reducible refine And.intro True.intro ?_); conv => whnf) | ((with_reducible refine And.intro ?hh ?_); (case hh => exact condA); conv => whnf) | fail))
  refine WpR.loopA (ι := Nat) [] [0, 1, 9, 10] [] [] 1 (fun i => [(11, .int .i64 i)]) (fun _ => []) (fun i => L.length - i) (fun i => i ≤ L.length ∧ wi a b L = wi a b (L.drop i)) ?_ (0) (⟨Nat.zero_le _, rfl⟩) [] Back.auto
  rintro i ⟨h1, hP⟩
  refine WpR.of_vc ?_
  cases hx : L[i]? with
  | some x =>
    have hlt := (List.getElem?_eq_some_iff.1 hx).1
    rw [drop_at hx] at hP
    unfold wi at hP
    rw [List.all_cons] at hP
    have hQ : wi a b L = (decide (a ≤ x ∧ x ≤ b) && wi a b (L.drop (i + 1))) := hP
    (conv => whnf); (repeat' (first | ((with_reducible refine ifb_mk (fun hc => ?_) (fun hc => ?_)) <;> ((try simp only [decide_eq_true_eq, decide_eq_false_iff_not, Bool.not_eq_true', Bool.not_eq_false', Int.not_lt, Int.not_le, ne_eq, Decidable.not_not, beq_iff_eq, List.cons.injEq, and_true] at hc); (first | (exfalso; omega) | exact absurd True.intro hc | conv => whnf))) | ((with_reducible refine And.intro True.intro ?_); conv => whnf) | ((with_reducible refine grd_get ?_); refine som_mk (a := ?_) ?hh ?_; (case hh => exact iGet hx); conv => whnf) | ((with_reducible refine And.intro ?hh ?_); (case hh => exact condA); conv => whnf) | fail))
    · (refine ⟨[], ?_, rfl, rfl, trivial, trivs⟩; simp only [renV, renL]; rw [hQ, decide_eq_false (by omega)]; rfl)
    · (refine ⟨[], ?_, rfl, rfl, trivial, trivs⟩; simp only [renV, renL]; rw [hQ, decide_eq_false (by omega)]; rfl)
    · rw [decide_eq_true (by omega), Bool.true_and] at hQ
      exact ⟨i + 1, [], by omega, ⟨by omega, hQ⟩, Back.auto⟩
  | none =>
    have hlen : L.length ≤ i := by simpa using hx
    (conv => whnf); (repeat' (first | ((with_reducible refine ifb_mk (fun hc => ?_) (fun hc => ?_)) <;> ((try simp only [decide_eq_true_eq, decide_eq_false_iff_not, Bool.not_eq_true', Bool.not_eq_false', Int.not_lt, Int.not_le, ne_eq, Decidable.not_not, beq_iff_eq, List.cons.injEq, and_true] at hc); (first | (exfalso; omega) | exact absurd True.intro hc | conv => whnf))) | ((with_reducible refine And.intro True.intro ?_); conv => whnf) | ((with_reducible refine And.intro ?hh ?_); (case hh => exact condA); conv => whnf) | fail))
    have e : wi a b L = true := by rw [hP, List.drop_eq_nil_of_le hlen]; rfl
    (refine ⟨[], ?_, rfl, rfl, trivial, trivs⟩; simp only [renV, renL]; rw [e])
theorem within1_ok (h : H) (a b x : Int) (sv : V) (hs : SlC h (iVs [x]) 1 sv) : CallOk Try.prog 55 [.int .i64 a, .int .i64 b, sv] h (.bool (decide (a ≤ x ∧ x ≤ b))) h := by
  have := within_ok h a b [x] sv (by simp) hs
  unfold wi at this
  simpa using this
end Go.Proofs.J

