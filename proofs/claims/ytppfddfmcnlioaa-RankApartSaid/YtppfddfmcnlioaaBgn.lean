/- What the functions answer that the laws call, one after another (Bgn). -/
import Derived.Test.YtppfddfmcnlioaaAs6
import Derived.Test.YtppfddfmcnlioaaOrd

set_option linter.unusedVariables false
namespace Go.Proofs.J
open Go.As
set_option maxRecDepth 20000
set_option linter.unusedVariables false
set_option linter.unusedSimpArgs false

/-! ### Keys of two numbers of different kinds -/

section
variable {P : Program} {t : TypeId} {f0 f1 : Field} {k0 k1 : IntKind}
def pairV (k0 k1 : IntKind) (p : Int × Int) : Value := .agg #[.int k0 p.1, .int k1 p.2]
theorem pure_equal_k {t : TypeId} {k : IntKind} (hu : P.underlying t = some (.int k)) (d : Nat) (a b : Int) : pureP P (Op.equalIn (d + 1) t (.int k a) (.int k b)) = some (a == b) := by
  unfold Op.equalIn
  rw [pureP_bind_eq, pureP_und hu]
  simp only [if_true]
  rfl
theorem isAgg_k {t : TypeId} {k : IntKind} (h : P.underlying t = some (.int k)) : isAgg? P t = some false := by unfold isAgg?; rw [h]
theorem pair_equal (hu : P.underlying t = some (.struct #[f0, f1])) (n0 : f0.name ≠ "_") (n1 : f1.name ≠ "_") (o0 : f0.offset = 0) (o1 : f1.offset = 1) (u0 : P.underlying f0.type = some (.int k0)) (u1 : P.underlying f1.type = some (.int k1)) (hst : P.stoodInHeld t = false) (d : Nat) (a b : Int × Int) :
    pureP P (Op.equalIn (d + 2) t (pairV k0 k1 a) (pairV k0 k1 b)) = some (decide (a = b)) := by
  unfold Op.equalIn pairV
  rw [pureP_bind_eq, pureP_und hu]
  dsimp only
  rw [pureP_bind_eq]
  show (match some P with | some a => _ | none => none) = _
  dsimp only
  rw [hst]
  simp only [Bool.false_eq_true, if_false]
  rw [pureP_bind_eq, ← Array.forIn_toList]
  have hstep : ∀ f ∈ (#[f0, f1] : Array Field).toList, f.name ≠ "_" ∧ pureP P (do let x ← part f.type #[Value.int k0 a.1, .int k1 a.2] f.offset; let y ← part f.type #[Value.int k0 b.1, .int k1 b.2] f.offset; Op.equalIn (d + 1) f.type x y) = some (if f.offset = 0 then a.1 == b.1 else a.2 == b.2) := by
    intro f hf
    rcases List.mem_cons.1 hf with rfl | hf
    · refine ⟨n0, ?_⟩
      rw [o0, if_pos rfl, pureP_bind_eq, pure_part (isAgg_k u0) (v := .int k0 a.1) rfl]
      dsimp only
      rw [pureP_bind_eq, pure_part (isAgg_k u0) (v := .int k0 b.1) rfl]
      dsimp only
      exact pure_equal_k u0 d _ _
    · rw [List.mem_singleton.1 hf]
      refine ⟨n1, ?_⟩
      rw [o1, if_neg (by decide), pureP_bind_eq, pure_part (isAgg_k u1) (v := .int k1 a.2) rfl]
      dsimp only
      rw [pureP_bind_eq, pure_part (isAgg_k u1) (v := .int k1 b.2) rfl]
      dsimp only
      exact pure_equal_k u1 d _ _
  rw [forIn_all (P := P) (#[f0, f1] : Array Field).toList _ (fun f => if f.offset = 0 then a.1 == b.1 else a.2 == b.2) (fun f hf => (hstep f hf).2) _ ?_]
  · have hall : ((#[f0, f1] : Array Field).toList.all fun f => if f.offset = 0 then a.1 == b.1 else a.2 == b.2) = decide (a = b) := by
      show ((if f0.offset = 0 then a.1 == b.1 else a.2 == b.2) && ((if f1.offset = 0 then a.1 == b.1 else a.2 == b.2) && true)) = _
      rw [o0, o1, if_pos rfl, if_neg (by decide), Bool.and_true, Bool.eq_iff_iff, Bool.and_eq_true, beq_iff_eq, beq_iff_eq, decide_eq_true_eq, Prod.ext_iff]
    dsimp only
    rw [hall]
    cases decide (a = b) <;> rfl
  · intro f hf r
    obtain ⟨h1, h2⟩ := hstep f hf
    rw [if_pos h1]
    rw [h2]
    rcases List.mem_cons.1 hf with rfl | hf
    · rw [o0, if_pos rfl, pureP_bind_eq, pure_part (isAgg_k u0) (v := .int k0 a.1) rfl]
      dsimp only
      rw [pureP_bind_eq, pure_part (isAgg_k u0) (v := .int k0 b.1) rfl]
      dsimp only
      rw [pureP_bind_eq, pure_equal_k u0]
      cases a.1 == b.1 <;> simp [pureP_pure]
    · have e := List.mem_singleton.1 hf
      subst e
      rw [o1, if_neg (by decide), pureP_bind_eq, pure_part (isAgg_k u1) (v := .int k1 a.2) rfl]
      dsimp only
      rw [pureP_bind_eq, pure_part (isAgg_k u1) (v := .int k1 b.2) rfl]
      dsimp only
      rw [pureP_bind_eq, pure_equal_k u1]
      cases a.2 == b.2 <;> simp [pureP_pure]
theorem pair_check (hu : P.underlying t = some (.struct #[f0, f1])) (n0 : f0.name ≠ "_") (n1 : f1.name ≠ "_") (o0 : f0.offset = 0) (o1 : f1.offset = 1) (u0 : P.underlying f0.type = some (.int k0)) (u1 : P.underlying f1.type = some (.int k1)) (em : Bool) (d : Nat) (a : Int × Int) : pureP P (Instr.checkKey em (d + 1 + 1) t (pairV k0 k1 a)) = some () := by
  unfold Instr.checkKey pairV
  rw [pureP_bind_eq, pureP_und hu]
  dsimp only
  rw [← Array.forIn_toList]
  have hck : ∀ {q : TypeId} {k : IntKind} (x : Int), P.underlying q = some (.int k) → pureP P (Instr.checkKey em (d + 1) q (.int k x)) = some () := fun x h => by
    unfold Instr.checkKey
    rw [pureP_bind_eq, pureP_und h]; rfl
  have hh : ∀ f ∈ (#[f0, f1] : Array Field).toList, f.name ≠ "_" ∧ ∃ v, pureP P (part f.type #[Value.int k0 a.1, .int k1 a.2] f.offset) = some v ∧ pureP P (Instr.checkKey em (d + 1) f.type v) = some () := by
    intro f hf
    rcases List.mem_cons.1 hf with rfl | hf
    · exact ⟨n0, _, pure_part (isAgg_k u0) (v := .int k0 a.1) (by rw [o0]; rfl), hck _ u0⟩
    · rw [List.mem_singleton.1 hf]
      exact ⟨n1, _, pure_part (isAgg_k u1) (v := .int k1 a.2) (by rw [o1]; rfl), hck _ u1⟩
  generalize (#[f0, f1] : Array Field).toList = gs at hh
  induction gs with
  | nil => rfl
  | cons f gs ih =>
    obtain ⟨hne, v, h1, h2⟩ := hh f (by simp)
    rw [List.forIn_cons, pureP_bind_eq, if_pos hne, pureP_bind_eq, pureP_bind_eq, h1]
    dsimp only
    rw [pureP_bind_eq, h2]
    have := ih (fun g hg => hh g (by simp [hg]))
    rw [pureP_bind_eq] at this
    exact this
theorem pair_keys (hu : P.underlying t = some (.struct #[f0, f1])) (n0 : f0.name ≠ "_") (n1 : f1.name ≠ "_") (o0 : f0.offset = 0) (o1 : f1.offset = 1) (u0 : P.underlying f0.type = some (.int k0)) (u1 : P.underlying f1.type = some (.int k1)) (hst : P.stoodInHeld t = false) : KeysOk P t (pairV k0 k1) where
  chk := fun em k => pair_check hu n0 n1 o0 o1 u0 u1 em 9998 k
  eq := .inr ⟨_, hu, fun a b => rfl, fun a b => by
    unfold Op.equal Op.maxDepth
    exact pair_equal hu n0 n1 o0 o1 u0 u1 hst 9998 a b⟩
end
end Go.Proofs.J

namespace Go.Proofs.J
open Go.As
set_option maxRecDepth 20000
set_option linter.unusedVariables false
set_option linter.unusedSimpArgs false

/-! ### Beginnings of orders -/

abbrev Bg := Nat × Nat
def eB (p : Bg) : List V := [.int .i64 (p.1 : Int), .int .u16 (p.2 : Int)]
theorem eB_len (p : Bg) : (eB p).length = 2 := rfl
theorem eB_bare (p : Bg) : ∀ v ∈ eB p, bare0 v = true := fun v h => by
  rcases List.mem_cons.1 h with rfl | h
  · rfl
  · rw [List.mem_singleton.1 h]; rfl
def kyB (p : Bg) : Value := pairV .i64 .u16 ((p.1 : Int), (p.2 : Int))
/-- A list that was made with one element, and grew. -/
def bgV (b : Nat) : Nat → V
  | 0 => .nils
  | 1 => .sl b 0 1 1 true
  | n + 2 => .sl b 0 (n + 2) (n + 2) false
noncomputable def bgB (L : List V) : Nat → Blk
  | 0 => .dead
  | 1 => .cells (ofL L 0) true none
  | n + 2 => .cells (ofL L 0) true (some (2, (n + 2) * 2))
theorem bgV_lt {b n : Nat} (h : Nat.blt b n = true) : ∀ i, ltV n (bgV b i) = true
  | 0 => rfl
  | 1 => h
  | _ + 2 => h
theorem bgB_lt {L : List V} (hb : ∀ v ∈ L, bare0 v = true) (n : Nat) : ∀ i, ltB n (bgB L i)
  | 0 => True.intro
  | 1 => ltB_ofLb hb
  | _ + 2 => ltB_ofLb hb
/-- May that star come next? -/
def elB (br : Nat → Nat) (g x : Nat) : Bool := !g.testBit x && subB (br x) g
def loB (p : Bg) (x : Nat) : Bg := (p.1 + 1, p.2 ||| 2 ^ x)
/-- The list behind the first x stars of one of its elements (newest first). -/
def inQ (br : Nat → Nat) (p : Bg) (q : List Bg) : Nat → List Bg
  | 0 => q
  | x + 1 => if elB br p.2 x = true ∧ loB p x ∉ inQ br p q x then loB p x :: inQ br p q x else inQ br p q x
/-- The map of those that were met (all but the first). -/
def meM : List Bg → List (Value × V × Nat)
  | [] => []
  | [_] => []
  | p :: a :: q => meM (a :: q) ++ [(kyB p, .bool true, q.length)]
theorem meM_keys : ∀ q : List Bg, (meM q).map (·.1) = (q.reverse.drop 1).map kyB
  | [] => rfl
  | [_] => rfl
  | p :: a :: q => by
    have ih := meM_keys (a :: q)
    rw [meM, List.map_append, ih, List.reverse_cons (a := p), List.drop_append_of_le_length (by simp), List.map_append]
    rfl
theorem meM_val : ∀ (q : List Bg) (e : Value × V × Nat), e ∈ meM q → e.2.1 = .bool true
  | [], e, h => by cases h
  | [_], e, h => by cases h
  | p :: a :: q, e, h => by
    rw [meM] at h
    rcases List.mem_append.1 h with h | h
    · exact meM_val _ e h
    · rw [List.mem_singleton.1 h]
/-- How many of the first n stars are in a group. -/
def pcN (g : Nat) : Nat → Nat
  | 0 => 0
  | n + 1 => pcN g n + (if g.testBit n = true then 1 else 0)
theorem pcN_le (g : Nat) : ∀ n, pcN g n ≤ n
  | 0 => Nat.le_refl _
  | n + 1 => by have := pcN_le g n; unfold pcN; split <;> omega
theorem pcN_with {g x : Nat} (hx : g.testBit x = false) : ∀ n, pcN (g ||| 2 ^ x) n = pcN g n + (if x < n then 1 else 0)
  | 0 => rfl
  | n + 1 => by
    have ih := pcN_with hx n
    unfold pcN
    rw [ih, testBit_with]
    by_cases e : n = x
    · subst e
      rw [hx, decide_eq_true rfl, Bool.or_true, if_neg (Nat.lt_irrefl _), if_pos rfl, if_neg (by decide), if_pos (by omega)]
    · rw [decide_eq_false e, Bool.or_false]
      (repeat' split) <;> omega
/-- What a list is made of. -/
structure Bq (S : Nat) (q : List Bg) : Prop where
  nd : (q.map (·.2)).Nodup
  lt : ∀ p ∈ q, p.2 < 2 ^ S
  pc : ∀ p ∈ q, p.1 = pcN p.2 S
  ro : q.reverse.head? = some (0, 0)
  nz : ∀ p ∈ q.reverse.drop 1, 1 ≤ p.1
theorem nodup_len : ∀ (n : Nat) (l : List Nat), l.Nodup → (∀ x ∈ l, x < n) → l.length ≤ n
  | 0, l, _, h => by
    cases l with
    | nil => exact Nat.le_refl _
    | cons x l => exact absurd (h x List.mem_cons_self) (Nat.not_lt_zero _)
  | n + 1, l, hd, h => by
    by_cases hn : n ∈ l
    · have h1 := nodup_len n (l.erase n) (hd.erase n) fun x hx => by
        have h2 := (List.Nodup.mem_erase_iff hd).1 hx
        have := h x h2.2
        omega
      rw [List.length_erase_of_mem hn] at h1
      omega
    · have := nodup_len n l hd fun x hx => by
        have h2 := h x hx
        have : x ≠ n := fun e => hn (e ▸ hx)
        omega
      omega
theorem Bq.len {S : Nat} (hS : S ≤ 10) {q : List Bg} (b : Bq S q) : 1 ≤ q.length ∧ q.length ≤ 1024 := by
  constructor
  · cases q with
    | nil => have := b.ro; simp at this
    | cons x q => simp
  · have h1 := nodup_len (2 ^ S) (q.map (·.2)) b.nd fun x hx => by
      obtain ⟨p, hp, rfl⟩ := List.mem_map.1 hx
      exact b.lt p hp
    rw [List.length_map] at h1
    have h2 : 2 ^ S ≤ 2 ^ 10 := Nat.pow_le_pow_right (by omega) hS
    omega
theorem Bq.begin (S : Nat) : Bq S [(0, 0)] := by
  refine ⟨by simp, fun p hp => ?_, fun p hp => ?_, rfl, fun p hp => by simp at hp⟩
  · rw [List.mem_singleton.1 hp]; exact Nat.pow_pos (by omega)
  · rw [List.mem_singleton.1 hp]
    show 0 = pcN 0 S
    induction S with
    | zero => rfl
    | succ n ih => unfold pcN; rw [← ih, Nat.zero_testBit]; rfl
theorem Bq.cons {S : Nat} {br : Nat → Nat} {q : List Bg} (b : Bq S q) {p : Bg} (hp : p ∈ q) {x : Nat} (hx : x < S) (he : elB br p.2 x = true) (hn : loB p x ∉ q) : Bq S (loB p x :: q) := by
  have hb : p.2.testBit x = false := by
    unfold elB at he
    rw [Bool.and_eq_true, Bool.not_eq_true'] at he
    exact he.1
  have hpc : (loB p x).1 = pcN (loB p x).2 S := by
    show p.1 + 1 = pcN (p.2 ||| 2 ^ x) S
    rw [pcN_with hb, if_pos hx, b.pc p hp]
  have hne : q ≠ [] := fun e => by subst e; cases hp
  obtain ⟨a, r, hr⟩ : ∃ a r, q.reverse = a :: r := by
    cases hq : q.reverse with
    | nil => exact absurd (List.reverse_eq_nil_iff.1 hq) hne
    | cons a r => exact ⟨a, r, rfl⟩
  refine ⟨?_, fun y hy => ?_, fun y hy => ?_, ?_, fun y hy => ?_⟩
  · rw [List.map_cons, List.nodup_cons]
    refine ⟨fun hm => ?_, b.nd⟩
    obtain ⟨y, hy, e⟩ := List.mem_map.1 hm
    have h1 := b.pc y hy
    refine hn ?_
    have : y = loB p x := by
      obtain ⟨y1, y2⟩ := y
      dsimp only at e h1
      rw [← e] at hpc
      show (y1, y2) = ((loB p x).1, (loB p x).2)
      rw [hpc, ← e, h1]
    rw [← this]; exact hy
  · rcases List.mem_cons.1 hy with rfl | hy
    · exact Nat.or_lt_two_pow (b.lt p hp) (Nat.pow_lt_pow_right (by omega) hx)
    · exact b.lt y hy
  · rcases List.mem_cons.1 hy with rfl | hy
    · exact hpc
    · exact b.pc y hy
  · rw [List.reverse_cons, hr]
    have := b.ro
    rw [hr] at this
    exact this
  · rw [List.reverse_cons, hr] at hy
    have hy' : y ∈ r ++ [loB p x] := hy
    rcases List.mem_append.1 hy' with hy | hy
    · exact b.nz y (by rw [hr]; exact hy)
    · rw [List.mem_singleton.1 hy]; show 1 ≤ p.1 + 1; omega
theorem inQ_sub {br : Nat → Nat} {p : Bg} {q : List Bg} : ∀ x, ∀ y ∈ q, y ∈ inQ br p q x
  | 0, y, hy => hy
  | x + 1, y, hy => by
    unfold inQ
    split
    · exact List.mem_cons_of_mem _ (inQ_sub x y hy)
    · exact inQ_sub x y hy
theorem Bq.inQ {S : Nat} {br : Nat → Nat} {q : List Bg} (b : Bq S q) {p : Bg} (hp : p ∈ q) : ∀ x, x ≤ S → Bq S (inQ br p q x)
  | 0, _ => b
  | x + 1, hx => by
    have ih := Bq.inQ (br := br) b hp x (by omega)
    unfold Go.Proofs.J.inQ
    split
    · rename_i h; exact ih.cons (inQ_sub x p hp) (by omega) h.1 h.2
    · exact ih
theorem inQ_len {br : Nat → Nat} {p : Bg} {q : List Bg} : ∀ x, q.length ≤ (inQ br p q x).length
  | 0 => Nat.le_refl _
  | x + 1 => by
    have := inQ_len (br := br) (p := p) (q := q) x
    unfold inQ
    split
    · rw [List.length_cons]; omega
    · exact this
theorem inQ_same {br : Nat → Nat} {p : Bg} {q : List Bg} : ∀ x, (inQ br p q x).length = q.length → inQ br p q x = q
  | 0, _ => rfl
  | x + 1, h => by
    have h1 := inQ_len (br := br) (p := p) (q := q) x
    unfold inQ at h ⊢
    split
    · rename_i hc
      rw [if_pos hc, List.length_cons] at h; omega
    · rename_i hc
      rw [if_neg hc] at h; exact inQ_same x h
/-- All beginnings. -/
def bfI (br : Nat → Nat) (S : Nat) : Nat → Nat → List Bg → List Bg
  | 0, _, q => q
  | f + 1, i, q => if i < q.length then bfI br S f (i + 1) (inQ br (q.reverse.getD i (0, 0)) q S) else q
def bgs (br : Nat → Nat) (S : Nat) : List Bg := bfI br S 1025 0 [(0, 0)]
theorem bfI_ok {S : Nat} {br : Nat → Nat} : ∀ (f i : Nat) (q : List Bg), Bq S q → Bq S (bfI br S f i q)
  | 0, _, _, b => b
  | f + 1, i, q, b => by
    unfold bfI
    split
    · rename_i h
      obtain ⟨p, hp⟩ : ∃ p, q.reverse[i]? = some p := ⟨_, List.getElem?_eq_getElem (by rw [List.length_reverse]; exact h)⟩
      refine bfI_ok f (i + 1) _ (b.inQ ?_ S (Nat.le_refl _))
      rw [List.getD_eq_getElem?_getD, hp]
      exact List.mem_reverse.1 (List.mem_of_getElem? hp)
    · exact b
theorem bgs_ok (br : Nat → Nat) (S : Nat) : Bq S (bgs br S) := bfI_ok 1025 0 _ (Bq.begin S)
theorem bfI_end {S : Nat} {br : Nat → Nat} : ∀ (f i : Nat) (q : List Bg), ¬ i < q.length → bfI br S f i q = q
  | 0, _, _, _ => rfl
  | f + 1, i, q, h => by unfold bfI; rw [if_neg h]
theorem Bq.find {S : Nat} {q : List Bg} (b : Bq S q) (p : Bg) (hp : 1 ≤ p.1) : (decide (p ∈ q) = true ↔ p ∈ q.reverse.drop 1) := by
  rw [decide_eq_true_eq]
  constructor
  · intro h
    have h1 := List.mem_reverse.2 h
    have h2 := b.ro
    cases hq : q.reverse with
    | nil => rw [hq] at h1; cases h1
    | cons a r =>
      rw [hq] at h1 h2
      have ha : a = (0, 0) := by simpa using h2
      rcases List.mem_cons.1 h1 with e | h1
      · rw [e, ha] at hp; exact absurd hp (by decide)
      · exact h1
  · intro h
    exact List.mem_reverse.1 (List.mem_of_mem_drop h)
end Go.Proofs.J

namespace Go.Proofs.J
open Go.As
set_option maxRecDepth 20000
set_option linter.unusedVariables false
set_option linter.unusedSimpArgs false

theorem bgSh (vs : Vw) (n k m : Nat) (i : Nat) (hm : i + 1 ≤ m) : ∀ l : Nat, ShV vs n k m (bgV (n + i) l) (bgV (k + i) l)
  | 0 => .bare rfl
  | 1 => .sl (i := i) (by omega) rfl rfl
  | _ + 2 => .sl (i := i) (by omega) rfl rfl
theorem bgBs {vs : Vw} {n k m : Nat} (q : List Bg) (hq : q ≠ []) : (bgB (gR eB q) q.length).wr = true ∧ ShB vs n k m (bgB (gR eB q) q.length) (bgB (gR eB q) q.length) := by
  match q, hq with
  | [x], _ => exact ⟨rfl, .bare (ofL_bare (gR_bare eB_bare))⟩
  | x :: y :: q, _ => exact ⟨rfl, .bare (ofL_bare (gR_bare eB_bare))⟩
theorem meM_lt (n : Nat) (q : List Bg) : ltB n (.map (meM q) (q.length - 1)) := fun e he => by rw [meM_val q e he]; rfl
theorem gB_len (q : List Bg) : (gR eB q).length = q.length * 2 := gR_len eB_len q
theorem gB_one (q : List Bg) : (gR eB q).all one = true := gR_one eB_bare q
theorem gB_bare (q : List Bg) : ∀ v ∈ gR eB q, bare0 v = true := gR_bare eB_bare
theorem gB_at {q : List Bg} {i : Nat} {p : Bg} (hp : q.reverse[i]? = some p) {o : Nat} (ho : o = i * 2) : getN (ofL (gR eB q) 0) 2 o = some (eB p) := by
  have := getN_all (eB p) (ofL (gR eB q) 0) o (fun k v hk => get_ofL0 (by rw [ho]; exact gR_at eB_len hp hk))
  rwa [eB_len] at this
def toI (p : Bg) : Int × Int := ((p.1 : Int), (p.2 : Int))
theorem toI_inj {p q : Bg} (h : toI p = toI q) : p = q := by
  obtain ⟨a, b⟩ := p
  obtain ⟨c, d⟩ := q
  have h1 := congrArg Prod.fst h
  have h2 := congrArg Prod.snd h
  have h1' : (a : Int) = c := h1
  have h2' : (b : Int) = d := h2
  rw [Int.ofNat.inj h1', Int.ofNat.inj h2']
theorem meM_sub {ρ : Nat → Nat} (q : List Bg) (c : Nat) : SubQ ρ (.map (meM q) c) (.map (meM q) c) := .map (by
  have h : ∀ l : List (Value × V × Nat), (∀ e ∈ l, e.2.1 = .bool true) → l.map (fun e => (e.1, renV ρ e.2.1, e.2.2)) = l := fun l => by
    induction l with
    | nil => intro _; rfl
    | cons e l ih =>
      intro h
      obtain ⟨a, b, c⟩ := e
      have h1 := h _ List.mem_cons_self
      dsimp only at h1
      subst h1
      rw [List.map_cons, ih fun e he => h e (List.mem_cons_of_mem _ he)]
      rfl
  exact (h _ (meM_val q)).symm)
theorem beg_keys : KeysOk Try.prog 121 (pairV .i64 .u16) := by
  exact pair_keys (k0 := .i64) (k1 := .u16) Try.underlying121 (by decide) (by decide) rfl rfl (by kernel_rfl) (by kernel_rfl) (by kernel_rfl)
theorem meM_find {S : Nat} {q : List Bg} (b : Bq S q) (p : Bg) (hp : 1 ≤ p.1) :
    (p ∈ q ∧ ∃ j e, (∀ em, findAt Try.prog em 121 (kyB p) (meM q) = some (some j)) ∧ (meM q)[j]? = some e ∧ e.2.1 = .bool true) ∨ (p ∉ q ∧ ∀ em, findAt Try.prog em 121 (kyB p) (meM q) = some none) := by
  have hk : (meM q).map (·.1) = ((q.reverse.drop 1).map toI).map (pairV .i64 .u16) := by rw [meM_keys, List.map_map]; rfl
  have hf := fun em => findAt_ok beg_keys em (toI p) _ hk
  have hlen : (meM q).length = (q.reverse.drop 1).length := by have := congrArg List.length (meM_keys q); simpa using this
  have hm := b.find p hp
  cases hc : ((q.reverse.drop 1).map toI).findIdx? (fun a => decide (toI p = a)) with
  | none =>
    refine .inr ⟨fun hmem => ?_, fun em => by have := hf em; rw [hc] at this; exact this⟩
    have h1 := List.findIdx?_eq_none_iff.1 hc (toI p) (List.mem_map_of_mem (hm.1 (decide_eq_true hmem)))
    rw [decide_eq_true rfl] at h1; cases h1
  | some j =>
    obtain ⟨hj, h1, _⟩ := List.findIdx?_eq_some_iff_getElem.1 hc
    have h2 := of_decide_eq_true h1
    rw [List.getElem_map] at h2
    have h3 := toI_inj h2
    rw [List.length_map] at hj
    have hmem : p ∈ q := of_decide_eq_true (hm.2 (by rw [h3]; exact List.getElem_mem _))
    have hj2 : j < (meM q).length := by rw [hlen]; exact hj
    exact .inl ⟨hmem, j, _, fun em => by have := hf em; rw [hc] at this; exact this, List.getElem?_eq_getElem hj2, meM_val q _ (List.getElem_mem hj2)⟩
theorem cell_sub {ρ : Nat → Nat} {v v' : V} {c : Tr V} (h : v' = renV ρ v) : SubQ ρ (.cells (ofL [v] 0) true none) (.cells (c.set 0 v') true none) := .cells (fun i u hu => by
  rw [get_ofL, if_pos (Nat.zero_le _), Nat.sub_zero] at hu
  match i with
  | 0 => simp at hu; subst hu; rw [Tr.get_set, if_pos rfl, h]
  | i + 1 => simp at hu) id (.inr rfl)
theorem cell_sub2 {ρ : Nat → Nat} {v v' : V} (h : v' = renV ρ v) : SubQ ρ (.cells (ofL [v] 0) true none) (.cells (ofL [v'] 0) true none) := .cells (fun i u hu => by
  rw [get_ofL, if_pos (Nat.zero_le _), Nat.sub_zero] at hu
  match i with
  | 0 => simp at hu; subst hu; rw [h]; rfl
  | i + 1 => simp at hu) id (.inr rfl)
theorem bgV_ren {ρ : Nat → Nat} {b b' : Nat} (h : ρ b = b') : ∀ n, bgV b' n = renV ρ (bgV b n)
  | 0 => rfl
  | 1 => by subst h; rfl
  | _ + 2 => by subst h; rfl
theorem bgB_sub {ρ : Nat → Nat} (q : List Bg) : q ≠ [] → SubQ ρ (bgB (gR eB q) q.length) (bgB (gR eB q) q.length) := fun h => by
  match q, h with
  | [x], _ => exact SubQ.ofL rfl (gB_bare _) (.inr rfl)
  | x :: y :: q, _ => exact SubQ.ofL rfl (gB_bare _) (.inr rfl)
theorem meM_cons (p : Bg) {q : List Bg} (hq : q ≠ []) : meM (p :: q) = meM q ++ [(kyB p, .bool true, q.length - 1)] ∧ (p :: q).length - 1 = q.length - 1 + 1 := by
  cases q with
  | nil => exact absurd rfl hq
  | cons a q => exact ⟨rfl, by simp⟩
set_option maxHeartbeats 16000000 in
theorem beg_new (h : As.H) (s S : Nat) (hS : 1 ≤ S ∧ S ≤ 10) (lv : V) (hl : bare0 lv = true) (lk br : Nat → Nat) (hT : Tb br) (mk : Nat → Bool) {w : Bool} {g : Option (Nat × Nat)} (hs : h.get s = some (.cells (ofL (skL S lv lk br mk) 0) w g)) :
    CallOk Try.prog 98 [.ptr s 0, .fn 68 [] []] h (bgV (h.n + 0) (bgs br S).length) (addBs h [bgB (gR eB (bgs br S)) (bgs br S).length]) := by
  have hlt : ∀ n, ltB n (.cells (ofL (skL S lv lk br mk) 0) false none) := fun n => ltB_ofLb (skL_bare hl)
  have hBare : ∀ v ∈ skL S lv lk br mk, bare0 v = true := skL_bare hl
  have hF : bgs br S = bfI br S 1025 0 [(0, 0)] := rfl
  have hFne : bgs br S ≠ [] := fun e => by have := ((bgs_ok br S).len hS.2).1; rw [e] at this; exact absurd this (by decide)
  generalize bgs br S = F at *
  have hMapX := hlt 6
  have hMapY := hlt 1000
  refine CallOk.runN Try.func98 rfl rfl (argsC := [.ptr 0 0, .fn 68 [] []]) (fun N => bgV (N + 0) F.length) (fun _ => [bgB (gR eB F) F.length]) (Nat.le_of_ble_eq_true rfl) [some (s, 0)] (.cons (.ptr (i := 0) rfl) (.cons (.lt0 rfl) .nil)) (one_view hs (skL_bare hl)) (bgSh _ _ _ _ 0 (Nat.le_refl _) _) rfl (fun i b hi => ?_) (WpR.of_vc ?_)
  · match i, hi with
    | 0, hi =>
      cases hi
      obtain ⟨h1, h2⟩ := bgBs (vs := [some (s, 0)]) (k := h.n) (n := [Blk.cells (ofL (skL (S : Int) lv lk br mk) 0) false none].length) (m := [bgB (gR eB F) F.length].length) F hFne
      exact ⟨_, rfl, h1, h2⟩
    | i + 1, hi => simp at hi
  · (conv => whnf); (repeat' (first | ((with_reducible refine ifb_mk (fun hc => ?_) (fun hc => ?_)) <;> ((try simp only [decide_eq_true_eq, decide_eq_false_iff_not, Bool.not_eq_true', Bool.not_eq_false', Int.not_lt, Int.not_le, ne_eq, Decidable.not_not, beq_iff_eq, List.cons.injEq, and_true] at hc); (first | (exfalso; omega) | exact absurd True.intro hc | conv => whnf))) | ((with_reducible refine And.intro True.intro ?_); conv => whnf) | ((with_reducible refine And.intro ?hh ?_); (case hh => exact condA); conv => whnf) | fail))
    have hMap : ∀ n (q : List Bg), ltB n (bgB (gR eB q) q.length) := fun n q => bgB_lt (gR_bare eB_bare) n _
    have hMapA : ∀ n l, ltB (n + 3) (.cells (ofL [bgV 2 l] 0) true none) := fun n l => ltB_ofL (by intro v hv; rw [List.mem_singleton.1 hv]; exact bgV_lt (by rw [Nat.blt_eq]; omega) l)
    have hMapC : ∀ n (q : List Bg), ltB n (.map (meM q) (q.length - 1)) := fun n q => meM_lt n q
    refine WpR.loopGA 1 (ι := Nat × (List Bg × Nat)) [2] [0, 3, 5, 6] [2, 3, 4] [] 6 (fun p => [(7, .int .i64 p.1)]) (fun p => [(2, bgB (gR eB p.2.1) p.2.1.length), (3, .cells (ofL [bgV 2 p.2.1.length] 0) true none), (4, .map (meM p.2.1) (p.2.1.length - 1))]) (fun p => p.2.2) (fun p => Bq S p.2.1 ∧ p.1 ≤ p.2.1.length ∧ bfI br S p.2.2 p.1 p.2.1 = F ∧ 1025 ≤ p.2.2 + p.1) ?_ ((0, ([(0, 0)], 1025))) (⟨Bq.begin S, by (try dsimp only); simp, hF.symm, by (try dsimp only); omega⟩) [] Back.auto
    rintro ⟨i, q, f⟩ ⟨b, j1, j2, j3⟩
    dsimp only at b j1 j2 j3
    refine WpR.of_vc ?_
    have hlen := b.len hS.2
    by_cases hi : i < q.length
    · obtain ⟨p, hp⟩ : ∃ p, q.reverse[i]? = some p := ⟨_, List.getElem?_eq_getElem (by rw [List.length_reverse]; exact hi)⟩
      have hpm : p ∈ q := List.mem_reverse.1 (List.mem_of_getElem? hp)
      have hgN := fun o (ho : o = i * 2) => gB_at hp ho
      obtain ⟨f, rfl⟩ : ∃ f', f = f' + 1 := ⟨f - 1, by omega⟩
      have hp2 := b.lt p hpm
      have hp216 : p.2 < 65536 := Nat.lt_of_lt_of_le hp2 (Nat.pow_le_pow_right (n := 2) (by omega) (by omega : S ≤ 16))
      have hpl : p.1 ≤ 10 := by rw [b.pc p hpm]; have := pcN_le p.2 S; omega
      have hbq := fun k (hk : k ≤ S) => b.inQ (br := br) hpm k hk
      have hjn : bfI br S (f + 1) i q = if i < q.length then bfI br S f (i + 1) (inQ br (q.reverse.getD i (0, 0)) q S) else q := rfl
      rw [if_pos hi, List.getD_eq_getElem?_getD, hp] at hjn
      rw [j2] at hjn
      have hjn2 : F = bfI br S f (i + 1) (inQ br p q S) := hjn
      clear hjn
      have hI0 : inQ br p q 0 = q := rfl
      have hIS : ∀ k, inQ br p q (k + 1) = if elB br p.2 k = true ∧ loB p k ∉ inQ br p q k then loB p k :: inQ br p q k else inQ br p q k := fun k => rfl
      have hIl := fun k => inQ_len (br := br) (p := p) (q := q) k
      have hne : ∀ k, (inQ br p q k).length = q.length → inQ br p q k = q := inQ_same
      clear hp
      generalize inQ br p q = Q at *
      obtain ⟨A, hA1, hA2⟩ : ∃ A : Bool → Blk, A true = .dead ∧ A false = bgB (gR eB q) q.length := ⟨fun g => match g with | true => .dead | false => bgB (gR eB q) q.length, rfl, rfl⟩
      obtain ⟨B, hB⟩ : ∃ B : Nat × Bool → Blk, ∀ p, B p = match p.2 with | true => bgB (gR eB (Q p.1)) (Q p.1).length | false => .dead := ⟨_, fun p => rfl⟩
      obtain ⟨Cc, hC⟩ : ∃ C : Nat × Bool → Tr V, ∀ p, C p = ofL [match p.2 with | true => bgV 11 (Q p.1).length | false => bgV 2 q.length] 0 := ⟨_, fun p => rfl⟩
      have hAl : ∀ n g, ltB n (A g) := fun n g => by cases g; (rw [hA2]; exact bgB_lt (gR_bare eB_bare) n _); (rw [hA1]; exact True.intro)
      have hBl : ∀ n p, ltB n (B p) := fun n p => by rw [hB]; obtain ⟨k, g⟩ := p; cases g; exact True.intro; exact bgB_lt (gR_bare eB_bare) n _
      have hCl : ∀ n p, ltB (n + 12) (.cells (Cc p) true none) := fun n p => by
        rw [hC]
        refine ltB_ofL (by intro v hv; rw [List.mem_singleton.1 hv]; obtain ⟨k, g⟩ := p; cases g; exact bgV_lt (by rw [Nat.blt_eq]; omega) _; exact bgV_lt (by rw [Nat.blt_eq]; omega) _)
      have hO1 := hMap
      have hO2 := hMapA
      have hfind := fun k (hk : k ≤ S) => meM_find (hbq k hk) (loB p k) (by show 1 ≤ p.1 + 1; omega)
      have hq0 : q ≠ [] := fun e => by subst e; exact absurd hi (Nat.not_lt_zero _)
      have hbS := hbq S (Nat.le_refl _)
      have hQl := fun k (hk : k ≤ S) => ((hbq k hk).len hS.2).2
      have hel : ∀ k, elB br p.2 k = (!p.2.testBit k && subB (br k) p.2) := fun k => rfl
      clear b hbq
      cases q with
      | nil => exact absurd rfl hq0
      | cons x q1 =>
      cases q1 with
      | nil =>
        have hi' : i < 1 := hi
        (conv => whnf); (repeat' (first | ((with_reducible refine ifb_mk (fun hc => ?_) (fun hc => ?_)) <;> ((try simp only [decide_eq_true_eq, decide_eq_false_iff_not, Bool.not_eq_true', Bool.not_eq_false', Int.not_lt, Int.not_le, ne_eq, Decidable.not_not, beq_iff_eq, List.cons.injEq, and_true] at hc); (first | (exfalso; omega) | exact absurd True.intro hc | conv => whnf))) | ((with_reducible refine And.intro True.intro ?_); conv => whnf) | ((with_reducible refine grd_and ?_); refine And.intro (hi) ?_; conv => whnf) | ((with_reducible refine grd_getN ?_); refine som_mk (a := ?_) ?hh ?_; (case hh => exact hgN _ (by show 0 + Int.toNat (i : Int) * 2 = i * 2; omega)); conv => whnf) | ((with_reducible refine CallX.all (f := 94) ?_); refine CallW.inline Try.func94 rfl rfl (Nat.le_of_ble_eq_true rfl) (WpR.of_vc ?_); conv => whnf) | ((with_reducible refine RangeX.all ?_); conv => whnf) | ((with_reducible refine CallW.inline (f := 109) Try.func109 rfl rfl (Nat.le_of_ble_eq_true rfl) (WpR.of_vc ?_)); conv => whnf) | ((with_reducible refine And.intro ?hh ?_); (case hh => exact condA); conv => whnf) | fail))
        clear hMap hMapA
        have hMap := hAl
        have hMapA := hCl
        have hMapD := hBl
        have hMapB := hlt 12
        have hMapE := hlt 11
        have hs1 : SubQ (rho []) (A false) (.cells (ofL (gR eB [x]) 0) true none) := by rw [hA2]; exact SubQ.ofL rfl (gB_bare _) (.inr rfl)
        have hs2 : SubQ (rho []) (.cells (Cc (0, false)) true none) (.cells (ofL [.sl 2 0 1 1 true] 0) true none) := by rw [hC]; exact SubQ.fin (by (conv => whnf); (repeat' (first | exact True.intro | rfl | refine And.intro ?_ ?_)); done) (fun h => h) (.inr rfl)
        have hs3 : SubQ (rho []) (.map (meM (Q 0)) ((Q 0).length - 1)) (.map (meM [x]) ([x].length - 1)) := by rw [hI0]; exact meM_sub _ _
        have hs4 : B (0, false) = .dead := hB _
        refine WpR.loopA (ι := Nat × Bool) [11] [0, 1, 2, 9] [2, 3, 4, 11] [] 12 (fun k => [(10, .int .i64 k.1)]) (fun k => [(2, A k.2), (3, .cells (Cc k) true none), (4, .map (meM (Q k.1)) ((Q k.1).length - 1)), (11, B k)]) (fun k => S - k.1) (fun k => k.1 ≤ S ∧ (k.2 = false → Q k.1 = [x]) ∧ (k.2 = true → 2 ≤ (Q k.1).length)) ?_ ((0, false)) (⟨Nat.zero_le _, fun _ => hI0, fun h => by cases h⟩) [] ⟨rfl, rfl, (by (repeat' (first | exact True.intro | rfl | exact gr_ren rfl | exact aV_ren rfl | exact aW_ren rfl rfl | refine And.intro ?_ ?_))), (by (repeat' (first | exact True.intro | rfl | exact gr_ren rfl | exact aV_ren rfl | exact aW_ren rfl rfl | refine And.intro ?_ ?_))), (by (repeat' (first | exact True.intro | rfl | exact gr_ren rfl | exact aV_ren rfl | exact aW_ren rfl rfl | refine And.intro ?_ ?_))), ⟨.inr ⟨_, rfl, hs1⟩, .inr ⟨_, rfl, hs2⟩, .inr ⟨_, rfl, hs3⟩, .inl hs4, trivial⟩, rfl, rfl⟩
        rintro ⟨k, g⟩ ⟨k1, k2, k3⟩
        dsimp only at k1 k2 k3
        refine WpR.of_vc ?_
        by_cases hk : k < S
        · have c1 := fun h' => has_ok h' p.2 k hp216 (by omega)
          have c2 := fun h' => isWithin_ok h' (br k) p.2
          have c3 := fun h' => bwith_ok h' (p.1 : Int) p.2 k (by omega) hp216 (by omega)
          have hgk := fun o (ho : o = 12 + k) => sk_br (S := S) (lv := lv) (lk := lk) (br := br) (mk := mk) ho (by omega : k < 10)
          have hfk := hfind k (by omega)
          have hek := hel k
          have hIk := hIS k
          have sA : ∀ g, A g = .dead ∨ ∃ b', some (A g) = some b' ∧ SubQ (rho []) (A g) b' := fun g => by
            cases g
            · exact .inr ⟨_, rfl, by rw [hA2]; exact SubQ.ofL rfl (gB_bare _) (.inr rfl)⟩
            · exact .inl hA1
          have sC : Q (k + 1) = Q k → SubQ (rho []) (.cells (Cc (k + 1, g)) true none) (.cells (Cc (k, g)) true none) := fun e => by
            have : Cc (k + 1, g) = Cc (k, g) := by rw [hC, hC]; dsimp only; rw [e]
            rw [this]; exact SubQ.same (n := 1000) (Y := []) (fun _ _ _ => rfl) (hCl 988 _) (avB_nil _) rfl
          have sM : Q (k + 1) = Q k → SubQ (rho []) (.map (meM (Q (k + 1))) ((Q (k + 1)).length - 1)) (.map (meM (Q k)) ((Q k).length - 1)) := fun e => by rw [e]; exact meM_sub _ _
          have sB : Q (k + 1) = Q k → B (k + 1, g) = .dead ∨ ∃ b', some (B (k, g)) = some b' ∧ SubQ (rho []) (B (k + 1, g)) b' := fun e => by
            have : B (k + 1, g) = B (k, g) := by rw [hB, hB]; dsimp only; rw [e]
            rw [this]
            cases g
            · exact .inl (hB _)
            · refine .inr ⟨_, rfl, ?_⟩
              refine SubQ.same (n := 1000) (Y := []) (fun _ _ _ => rfl) (hBl _ _) (avB_nil _) ?_
              rw [hB]
              have := k3 rfl
              cases hq : Q k with
              | nil => rw [hq] at this; exact absurd this (by decide)
              | cons u r =>
                cases r with
                | nil => rfl
                | cons v r => rfl
          cases hb : p.2.testBit k with
          | true =>
            rw [hb] at c1 hek
            rw [hek, if_neg (fun h => by cases h.1)] at hIk
            (conv => whnf); (repeat' (first | ((with_reducible refine ifb_mk (fun hc => ?_) (fun hc => ?_)) <;> ((try simp only [decide_eq_true_eq, decide_eq_false_iff_not, Bool.not_eq_true', Bool.not_eq_false', Int.not_lt, Int.not_le, ne_eq, Decidable.not_not, beq_iff_eq, List.cons.injEq, and_true] at hc); (first | (exfalso; omega) | exact absurd True.intro hc | conv => whnf))) | ((with_reducible refine And.intro True.intro ?_); conv => whnf) | ((with_reducible refine grd_and ?_); refine And.intro (hk) ?_; conv => whnf) | ((with_reducible refine WpR.drawTail (id := 3) mixed 19 [0, 1, 2, 3, 4, 5, 6, 7, 8, 9, 10, 11, 12, 13, 14, 15, 16, 17, 18] [0, 1, 0, 7, 15, 31, 63, 63, 127, 383, 1023, 2047, 63, 4159, 16383, 32767, 65535, 131071, 131071] ?hh ?hk ?_); (case hh => kernel_rfl); (case hk => kernel_rfl); conv => whnf) | ((with_reducible refine grd_ex ?_); refine ex_ok (c1 _) ?_; conv => whnf) | ((with_reducible refine CallX.all ?_); refine CallW.of_ok (c1 _) ?_; conv => whnf) | ((with_reducible refine grd_ex ?_); refine ex_ok (c2 _) ?_; conv => whnf) | ((with_reducible refine CallX.all ?_); refine CallW.of_ok (c2 _) ?_; conv => whnf) | ((with_reducible refine grd_get ?_); refine som_mk (a := ?_) ?hh ?_; (case hh => exact hgk _ (by show 12 + Int.toNat (k : Int) * 1 = 12 + k; omega)); conv => whnf) | ((with_reducible refine And.intro ?hh ?_); (case hh => exact condA); conv => whnf) | fail))
            all_goals exact ⟨(k + 1, g), [], by dsimp only; omega, ⟨by dsimp only; omega, fun h => by dsimp only; rw [hIk]; exact k2 h, fun h => by dsimp only; rw [hIk]; exact k3 h⟩, ⟨rfl, rfl, (by (repeat' (first | exact True.intro | rfl | exact gr_ren rfl | exact aV_ren rfl | exact aW_ren rfl rfl | refine And.intro ?_ ?_))), (by (repeat' (first | exact True.intro | rfl | exact gr_ren rfl | exact aV_ren rfl | exact aW_ren rfl rfl | refine And.intro ?_ ?_))), (by (repeat' (first | exact True.intro | rfl | exact gr_ren rfl | exact aV_ren rfl | exact aW_ren rfl rfl | refine And.intro ?_ ?_))), ⟨sA _, .inr ⟨_, rfl, sC hIk⟩, .inr ⟨_, rfl, sM hIk⟩, sB hIk, trivial⟩, rfl, rfl⟩⟩
          | false =>
            rw [hb] at c1 hek
            cases hsb : subB (br k) p.2 with
            | false =>
              rw [hsb] at c2 hek
              rw [hek, if_neg (fun h => by cases h.1)] at hIk
              (conv => whnf); (repeat' (first | ((with_reducible refine ifb_mk (fun hc => ?_) (fun hc => ?_)) <;> ((try simp only [decide_eq_true_eq, decide_eq_false_iff_not, Bool.not_eq_true', Bool.not_eq_false', Int.not_lt, Int.not_le, ne_eq, Decidable.not_not, beq_iff_eq, List.cons.injEq, and_true] at hc); (first | (exfalso; omega) | exact absurd True.intro hc | conv => whnf))) | ((with_reducible refine And.intro True.intro ?_); conv => whnf) | ((with_reducible refine grd_and ?_); refine And.intro (hk) ?_; conv => whnf) | ((with_reducible refine WpR.drawTail (id := 3) mixed 19 [0, 1, 2, 3, 4, 5, 6, 7, 8, 9, 10, 11, 12, 13, 14, 15, 16, 17, 18] [0, 1, 0, 7, 15, 31, 63, 63, 127, 383, 1023, 2047, 63, 4159, 16383, 32767, 65535, 131071, 131071] ?hh ?hk ?_); (case hh => kernel_rfl); (case hk => kernel_rfl); conv => whnf) | ((with_reducible refine grd_ex ?_); refine ex_ok (c1 _) ?_; conv => whnf) | ((with_reducible refine CallX.all ?_); refine CallW.of_ok (c1 _) ?_; conv => whnf) | ((with_reducible refine grd_ex ?_); refine ex_ok (c2 _) ?_; conv => whnf) | ((with_reducible refine CallX.all ?_); refine CallW.of_ok (c2 _) ?_; conv => whnf) | ((with_reducible refine grd_get ?_); refine som_mk (a := ?_) ?hh ?_; (case hh => exact hgk _ (by show 12 + Int.toNat (k : Int) * 1 = 12 + k; omega)); conv => whnf) | ((with_reducible refine And.intro ?hh ?_); (case hh => exact condA); conv => whnf) | fail))
              all_goals exact ⟨(k + 1, g), [], by dsimp only; omega, ⟨by dsimp only; omega, fun h => by dsimp only; rw [hIk]; exact k2 h, fun h => by dsimp only; rw [hIk]; exact k3 h⟩, ⟨rfl, rfl, (by (repeat' (first | exact True.intro | rfl | exact gr_ren rfl | exact aV_ren rfl | exact aW_ren rfl rfl | refine And.intro ?_ ?_))), (by (repeat' (first | exact True.intro | rfl | exact gr_ren rfl | exact aV_ren rfl | exact aW_ren rfl rfl | refine And.intro ?_ ?_))), (by (repeat' (first | exact True.intro | rfl | exact gr_ren rfl | exact aV_ren rfl | exact aW_ren rfl rfl | refine And.intro ?_ ?_))), ⟨sA _, .inr ⟨_, rfl, sC hIk⟩, .inr ⟨_, rfl, sM hIk⟩, sB hIk, trivial⟩, rfl, rfl⟩⟩
            | true =>
              rw [hsb] at c2 hek
              have hek : elB br p.2 k = true := hek
              rcases hfk with ⟨hmem, j, ⟨ea, ev, ec⟩, f1, f2, f3⟩ | ⟨hmem, f1⟩
              · dsimp only at f3
                subst f3
                rw [if_neg (fun h => h.2 hmem)] at hIk
                (conv => whnf); (repeat' (first | ((with_reducible refine ifb_mk (fun hc => ?_) (fun hc => ?_)) <;> ((try simp only [decide_eq_true_eq, decide_eq_false_iff_not, Bool.not_eq_true', Bool.not_eq_false', Int.not_lt, Int.not_le, ne_eq, Decidable.not_not, beq_iff_eq, List.cons.injEq, and_true] at hc); (first | (exfalso; omega) | exact absurd True.intro hc | conv => whnf))) | ((with_reducible refine And.intro True.intro ?_); conv => whnf) | ((with_reducible refine grd_and ?_); refine And.intro (hk) ?_; conv => whnf) | ((with_reducible refine WpR.drawTail (id := 3) mixed 19 [0, 1, 2, 3, 4, 5, 6, 7, 8, 9, 10, 11, 12, 13, 14, 15, 16, 17, 18] [0, 1, 0, 7, 15, 31, 63, 63, 127, 383, 1023, 2047, 63, 4159, 16383, 32767, 65535, 131071, 131071] ?hh ?hk ?_); (case hh => kernel_rfl); (case hk => kernel_rfl); conv => whnf) | ((with_reducible refine grd_ex ?_); refine ex_ok (c1 _) ?_; conv => whnf) | ((with_reducible refine CallX.all ?_); refine CallW.of_ok (c1 _) ?_; conv => whnf) | ((with_reducible refine grd_ex ?_); refine ex_ok (c2 _) ?_; conv => whnf) | ((with_reducible refine CallX.all ?_); refine CallW.of_ok (c2 _) ?_; conv => whnf) | ((with_reducible refine grd_get ?_); refine som_mk (a := ?_) ?hh ?_; (case hh => exact hgk _ (by show 12 + Int.toNat (k : Int) * 1 = 12 + k; omega)); conv => whnf) | ((with_reducible refine And.intro ?hh ?_); (case hh => exact condA); conv => whnf) | fail))
                refine YldX.all ?_
                refine YldW.inline rfl rfl rfl (WpR.of_vc ?_)
                conv => whnf
                refine ⟨rfl, _, rfl, rfl, WpR.of_vc ?_⟩
                (conv => whnf); (repeat' (first | ((with_reducible refine ifb_mk (fun hc => ?_) (fun hc => ?_)) <;> ((try simp only [decide_eq_true_eq, decide_eq_false_iff_not, Bool.not_eq_true', Bool.not_eq_false', Int.not_lt, Int.not_le, ne_eq, Decidable.not_not, beq_iff_eq, List.cons.injEq, and_true] at hc); (first | (exfalso; omega) | exact absurd True.intro hc | conv => whnf))) | ((with_reducible refine And.intro True.intro ?_); conv => whnf) | ((with_reducible refine CallX.all ?_); refine CallW.of_ok (c3 _) ?_; conv => whnf) | ((with_reducible refine CallX.all (f := 68) ?_); refine CallW.inline Try.func68 rfl rfl (Nat.le_of_ble_eq_true rfl) (WpR.of_vc ?_); conv => whnf) | (refine som_mk (f1 _) ?_; conv => whnf) | (refine som_mk (f2) ?_; conv => whnf) | ((with_reducible refine And.intro ?hh ?_); (case hh => exact condA); conv => whnf) | fail))
                refine ⟨_, _, rfl, ?_⟩
                (conv => whnf); (repeat' (first | ((with_reducible refine ifb_mk (fun hc => ?_) (fun hc => ?_)) <;> ((try simp only [decide_eq_true_eq, decide_eq_false_iff_not, Bool.not_eq_true', Bool.not_eq_false', Int.not_lt, Int.not_le, ne_eq, Decidable.not_not, beq_iff_eq, List.cons.injEq, and_true] at hc); (first | (exfalso; omega) | exact absurd True.intro hc | conv => whnf))) | ((with_reducible refine And.intro True.intro ?_); conv => whnf) | ((with_reducible refine And.intro ?hh ?_); (case hh => exact condA); conv => whnf) | fail))
                all_goals exact ⟨(k + 1, g), [], by dsimp only; omega, ⟨by dsimp only; omega, fun h => by dsimp only; rw [hIk]; exact k2 h, fun h => by dsimp only; rw [hIk]; exact k3 h⟩, ⟨rfl, rfl, (by (repeat' (first | exact True.intro | rfl | exact gr_ren rfl | exact aV_ren rfl | exact aW_ren rfl rfl | refine And.intro ?_ ?_))), (by (repeat' (first | exact True.intro | rfl | exact gr_ren rfl | exact aV_ren rfl | exact aW_ren rfl rfl | refine And.intro ?_ ?_))), (by (repeat' (first | exact True.intro | rfl | exact gr_ren rfl | exact aV_ren rfl | exact aW_ren rfl rfl | refine And.intro ?_ ?_))), ⟨sA _, .inr ⟨_, rfl, sC hIk⟩, .inr ⟨_, rfl, sM hIk⟩, sB hIk, trivial⟩, rfl, rfl⟩⟩
              · rw [if_pos ⟨hek, hmem⟩] at hIk
                have hql := hQl k (by omega)
                have hqn : Q k ≠ [] := fun e => by have := hIl k; rw [e] at this; exact absurd this (by simp)
                have sMn : ∀ ρ : Nat → Nat, SubQ ρ (.map (meM (Q (k + 1))) ((Q (k + 1)).length - 1)) (.map (meM (Q k) ++ [(kyB (loB p k), .bool true, (Q k).length - 1)]) ((Q k).length - 1 + 1)) := fun ρ => by
                  obtain ⟨e1, e2⟩ := meM_cons (loB p k) hqn
                  rw [hIk, ← e1, ← e2]; exact meM_sub _ _
                cases g with
                | false =>
                  have hQk := k2 rfl
                  have hCg : (Cc (k, false)).get 0 = some (.sl 2 0 1 1 true) := by rw [hC]; rfl
                  have hCp : ∀ v, putN [v] (Cc (k, false)) 0 = some ((Cc (k, false)).set 0 v) := fun v => putN_one hCg
                  (conv => whnf); (repeat' (first | ((with_reducible refine ifb_mk (fun hc => ?_) (fun hc => ?_)) <;> ((try simp only [decide_eq_true_eq, decide_eq_false_iff_not, Bool.not_eq_true', Bool.not_eq_false', Int.not_lt, Int.not_le, ne_eq, Decidable.not_not, beq_iff_eq, List.cons.injEq, and_true] at hc); (first | (exfalso; omega) | exact absurd True.intro hc | conv => whnf))) | ((with_reducible refine And.intro True.intro ?_); conv => whnf) | ((with_reducible refine grd_and ?_); refine And.intro (hk) ?_; conv => whnf) | ((with_reducible refine WpR.drawTail (id := 3) mixed 19 [0, 1, 2, 3, 4, 5, 6, 7, 8, 9, 10, 11, 12, 13, 14, 15, 16, 17, 18] [0, 1, 0, 7, 15, 31, 63, 63, 127, 383, 1023, 2047, 63, 4159, 16383, 32767, 65535, 131071, 131071] ?hh ?hk ?_); (case hh => kernel_rfl); (case hk => kernel_rfl); conv => whnf) | ((with_reducible refine grd_ex ?_); refine ex_ok (c1 _) ?_; conv => whnf) | ((with_reducible refine CallX.all ?_); refine CallW.of_ok (c1 _) ?_; conv => whnf) | ((with_reducible refine grd_ex ?_); refine ex_ok (c2 _) ?_; conv => whnf) | ((with_reducible refine CallX.all ?_); refine CallW.of_ok (c2 _) ?_; conv => whnf) | ((with_reducible refine grd_get ?_); refine som_mk (a := ?_) ?hh ?_; (case hh => exact hgk _ (by show 12 + Int.toNat (k : Int) * 1 = 12 + k; omega)); conv => whnf) | ((with_reducible refine And.intro ?hh ?_); (case hh => exact condA); conv => whnf) | fail))
                  refine YldX.all ?_
                  refine YldW.inline rfl rfl rfl (WpR.of_vc ?_)
                  conv => whnf
                  refine ⟨rfl, _, rfl, rfl, WpR.of_vc ?_⟩
                  have hAf : A false = .cells (ofL (gR eB [x]) 0) true none := hA2
                  have sC1 : SubQ (rho [(11, 15)]) (.cells (Cc (k + 1, true)) true none) (.cells ((Cc (k, false)).set 0 (.sl 15 0 (1 + 1) (1 + 1) false)) true none) := by
                    rw [hC]; dsimp only; rw [hIk, hQk]; exact cell_sub rfl
                  have sB1 : SubQ (rho [(11, 15)]) (B (k + 1, true)) (.cells (ofL (gR eB [x] ++ eB (loB p k)) 0) true (some (2, (1 + 1) * 2))) := by
                    rw [hB]; dsimp only; rw [hIk, hQk]; exact SubQ.ofL rfl (gB_bare _) (.inr rfl)
                  (conv => whnf); (repeat' (first | ((with_reducible refine ifb_mk (fun hc => ?_) (fun hc => ?_)) <;> ((try simp only [decide_eq_true_eq, decide_eq_false_iff_not, Bool.not_eq_true', Bool.not_eq_false', Int.not_lt, Int.not_le, ne_eq, Decidable.not_not, beq_iff_eq, List.cons.injEq, and_true] at hc); (first | (exfalso; omega) | exact absurd True.intro hc | conv => whnf))) | ((with_reducible refine And.intro True.intro ?_); conv => whnf) | ((with_reducible refine CallX.all ?_); refine CallW.of_ok (c3 _) ?_; conv => whnf) | ((with_reducible refine CallX.all (f := 68) ?_); refine CallW.inline Try.func68 rfl rfl (Nat.le_of_ble_eq_true rfl) (WpR.of_vc ?_); conv => whnf) | (refine som_mk (f1 _) ?_; conv => whnf) | (refine som_mk (hCg) ?_; conv => whnf) | ((with_reducible refine grd_putN ?_); refine som_mk (a := ?_) ?hh ?_; (case hh => exact hCp _); conv => whnf) | (refine AppX.copy (n := 1) (L := gR eB [x]) (congrArg some hAf) rfl (gB_one _) (by omega) (by omega) ?_; conv => whnf) | ((with_reducible refine And.intro ?hh ?_); (case hh => exact condA); conv => whnf) | fail))
                  refine ⟨_, _, rfl, ?_⟩
                  (conv => whnf); (repeat' (first | ((with_reducible refine ifb_mk (fun hc => ?_) (fun hc => ?_)) <;> ((try simp only [decide_eq_true_eq, decide_eq_false_iff_not, Bool.not_eq_true', Bool.not_eq_false', Int.not_lt, Int.not_le, ne_eq, Decidable.not_not, beq_iff_eq, List.cons.injEq, and_true] at hc); (first | (exfalso; omega) | exact absurd True.intro hc | conv => whnf))) | ((with_reducible refine And.intro True.intro ?_); conv => whnf) | ((with_reducible refine And.intro ?hh ?_); (case hh => exact condA); conv => whnf) | fail))
                  all_goals exact ⟨(k + 1, true), [(11, 15)], by dsimp only; omega, ⟨by dsimp only; omega, fun h => (by cases h), fun _ => (by dsimp only; rw [hIk, hQk]; exact Nat.le_refl 2)⟩, ⟨rfl, rfl, (by (repeat' (first | exact True.intro | rfl | exact gr_ren rfl | exact aV_ren rfl | exact aW_ren rfl rfl | refine And.intro ?_ ?_))), (by (repeat' (first | exact True.intro | rfl | exact gr_ren rfl | exact aV_ren rfl | exact aW_ren rfl rfl | refine And.intro ?_ ?_))), (by (repeat' (first | exact True.intro | rfl | exact gr_ren rfl | exact aV_ren rfl | exact aW_ren rfl rfl | refine And.intro ?_ ?_))), ⟨.inl hA1, .inr ⟨_, rfl, sC1⟩, .inr ⟨_, rfl, sMn _⟩, .inr ⟨_, rfl, sB1⟩, trivial⟩, rfl, rfl⟩⟩
                | true =>
                  obtain ⟨m, hm⟩ : ∃ m, (Q k).length = m + 2 := ⟨(Q k).length - 2, by have := k3 rfl; omega⟩
                  have hCg : (Cc (k, true)).get 0 = some (.sl 11 0 (m + 2) (m + 2) false) := by rw [hC]; dsimp only; rw [hm]; rfl
                  have hCp : ∀ v, putN [v] (Cc (k, true)) 0 = some ((Cc (k, true)).set 0 v) := fun v => putN_one hCg
                  have hBk : B (k, true) = .cells (ofL (gR eB (Q k)) 0) true (some (2, (m + 2) * 2)) := by rw [hB]; dsimp only; rw [hm]; rfl
                  have sC1 : SubQ (rho [(11, 15)]) (.cells (Cc (k + 1, true)) true none) (.cells ((Cc (k, true)).set 0 (.sl 15 0 (m + 2 + 1) (m + 2 + 1) false)) true none) := by
                    rw [hC]; dsimp only; rw [hIk, List.length_cons, hm]; exact cell_sub rfl
                  have sB1 : SubQ (rho [(11, 15)]) (B (k + 1, true)) (.cells (ofL (gR eB (Q k) ++ eB (loB p k)) 0) true (some (2, (m + 2 + 1) * 2))) := by
                    rw [hB]; dsimp only; rw [hIk, List.length_cons, hm]; exact SubQ.ofL rfl (gB_bare _) (.inr rfl)
                  (conv => whnf); (repeat' (first | ((with_reducible refine ifb_mk (fun hc => ?_) (fun hc => ?_)) <;> ((try simp only [decide_eq_true_eq, decide_eq_false_iff_not, Bool.not_eq_true', Bool.not_eq_false', Int.not_lt, Int.not_le, ne_eq, Decidable.not_not, beq_iff_eq, List.cons.injEq, and_true] at hc); (first | (exfalso; omega) | exact absurd True.intro hc | conv => whnf))) | ((with_reducible refine And.intro True.intro ?_); conv => whnf) | ((with_reducible refine grd_and ?_); refine And.intro (hk) ?_; conv => whnf) | ((with_reducible refine WpR.drawTail (id := 3) mixed 19 [0, 1, 2, 3, 4, 5, 6, 7, 8, 9, 10, 11, 12, 13, 14, 15, 16, 17, 18] [0, 1, 0, 7, 15, 31, 63, 63, 127, 383, 1023, 2047, 63, 4159, 16383, 32767, 65535, 131071, 131071] ?hh ?hk ?_); (case hh => kernel_rfl); (case hk => kernel_rfl); conv => whnf) | ((with_reducible refine grd_ex ?_); refine ex_ok (c1 _) ?_; conv => whnf) | ((with_reducible refine CallX.all ?_); refine CallW.of_ok (c1 _) ?_; conv => whnf) | ((with_reducible refine grd_ex ?_); refine ex_ok (c2 _) ?_; conv => whnf) | ((with_reducible refine CallX.all ?_); refine CallW.of_ok (c2 _) ?_; conv => whnf) | ((with_reducible refine grd_get ?_); refine som_mk (a := ?_) ?hh ?_; (case hh => exact hgk _ (by show 12 + Int.toNat (k : Int) * 1 = 12 + k; omega)); conv => whnf) | ((with_reducible refine And.intro ?hh ?_); (case hh => exact condA); conv => whnf) | fail))
                  refine YldX.all ?_
                  refine YldW.inline rfl rfl rfl (WpR.of_vc ?_)
                  conv => whnf
                  refine ⟨rfl, _, rfl, rfl, WpR.of_vc ?_⟩
                  (conv => whnf); (repeat' (first | ((with_reducible refine ifb_mk (fun hc => ?_) (fun hc => ?_)) <;> ((try simp only [decide_eq_true_eq, decide_eq_false_iff_not, Bool.not_eq_true', Bool.not_eq_false', Int.not_lt, Int.not_le, ne_eq, Decidable.not_not, beq_iff_eq, List.cons.injEq, and_true] at hc); (first | (exfalso; omega) | exact absurd True.intro hc | conv => whnf))) | ((with_reducible refine And.intro True.intro ?_); conv => whnf) | ((with_reducible refine CallX.all ?_); refine CallW.of_ok (c3 _) ?_; conv => whnf) | ((with_reducible refine CallX.all (f := 68) ?_); refine CallW.inline Try.func68 rfl rfl (Nat.le_of_ble_eq_true rfl) (WpR.of_vc ?_); conv => whnf) | (refine som_mk (f1 _) ?_; conv => whnf) | (refine som_mk (hCg) ?_; conv => whnf) | ((with_reducible refine grd_putN ?_); refine som_mk (a := ?_) ?hh ?_; (case hh => exact hCp _); conv => whnf) | (refine AppX.own (n := 1) (L := gR eB (Q k)) (len := m + 2) (congrArg some hBk) (by rw [gB_len, hm]; rfl) (gB_one _) (by omega) (by omega) ?_; conv => whnf) | ((with_reducible refine And.intro ?hh ?_); (case hh => exact condA); conv => whnf) | fail))
                  refine ⟨_, _, rfl, ?_⟩
                  (conv => whnf); (repeat' (first | ((with_reducible refine ifb_mk (fun hc => ?_) (fun hc => ?_)) <;> ((try simp only [decide_eq_true_eq, decide_eq_false_iff_not, Bool.not_eq_true', Bool.not_eq_false', Int.not_lt, Int.not_le, ne_eq, Decidable.not_not, beq_iff_eq, List.cons.injEq, and_true] at hc); (first | (exfalso; omega) | exact absurd True.intro hc | conv => whnf))) | ((with_reducible refine And.intro True.intro ?_); conv => whnf) | ((with_reducible refine And.intro ?hh ?_); (case hh => exact condA); conv => whnf) | fail))
                  all_goals exact ⟨(k + 1, true), [(11, 15)], by dsimp only; omega, ⟨by dsimp only; omega, fun h => (by cases h), fun _ => (by dsimp only; rw [hIk, List.length_cons]; omega)⟩, ⟨rfl, rfl, (by (repeat' (first | exact True.intro | rfl | exact gr_ren rfl | exact aV_ren rfl | exact aW_ren rfl rfl | refine And.intro ?_ ?_))), (by (repeat' (first | exact True.intro | rfl | exact gr_ren rfl | exact aV_ren rfl | exact aW_ren rfl rfl | refine And.intro ?_ ?_))), (by (repeat' (first | exact True.intro | rfl | exact gr_ren rfl | exact aV_ren rfl | exact aW_ren rfl rfl | refine And.intro ?_ ?_))), ⟨.inl hA1, .inr ⟨_, rfl, sC1⟩, .inr ⟨_, rfl, sMn _⟩, .inr ⟨_, rfl, sB1⟩, trivial⟩, rfl, rfl⟩⟩
        · have ek : k = S := by omega
          subst ek
          have hqn : Q k ≠ [] := fun e => by have := hIl k; rw [e] at this; exact absurd this (by simp)
          have hil := hIl k
          rw [List.length_singleton] at hil
          have s4 : ∀ ρ : Nat → Nat, SubQ ρ (.map (meM (Q k)) ((Q k).length - 1)) (.map (meM (Q k)) ((Q k).length - 1)) := fun ρ => meM_sub _ _
          cases g with
          | false =>
            have hQk := k2 rfl
            have s2 : SubQ (rho []) (bgB (gR eB (Q k)) (Q k).length) (A false) := by rw [hA2, hQk]; exact bgB_sub _ (by simp)
            have s3 : SubQ (rho []) (.cells (ofL [bgV 2 (Q k).length] 0) true none) (.cells (Cc (k, false)) true none) := by rw [hC, hQk]; exact cell_sub2 (show bgV 2 [x].length = _ from bgV_ren (ρ := rho []) (b := 2) (b' := 2) rfl _)
            (conv => whnf); (repeat' (first | ((with_reducible refine ifb_mk (fun hc => ?_) (fun hc => ?_)) <;> ((try simp only [decide_eq_true_eq, decide_eq_false_iff_not, Bool.not_eq_true', Bool.not_eq_false', Int.not_lt, Int.not_le, ne_eq, Decidable.not_not, beq_iff_eq, List.cons.injEq, and_true] at hc); (first | (exfalso; omega) | exact absurd True.intro hc | conv => whnf))) | ((with_reducible refine And.intro True.intro ?_); conv => whnf) | ((with_reducible refine grd_and ?_); refine And.intro (hk) ?_; conv => whnf) | ((with_reducible refine And.intro ?hh ?_); (case hh => exact condA); conv => whnf) | fail))
            all_goals exact ⟨(i + 1, (Q k, f)), [], by dsimp only; omega, ⟨hbS, by dsimp only; omega, hjn2.symm, by dsimp only; omega⟩, ⟨rfl, rfl, (by (repeat' (first | exact True.intro | rfl | exact gr_ren rfl | exact aV_ren rfl | exact aW_ren rfl rfl | refine And.intro ?_ ?_))), (by (repeat' (first | exact True.intro | rfl | exact gr_ren rfl | exact aV_ren rfl | exact aW_ren rfl rfl | refine And.intro ?_ ?_))), (by (repeat' (first | exact True.intro | rfl | exact gr_ren rfl | exact aV_ren rfl | exact aW_ren rfl rfl | refine And.intro ?_ ?_))), ⟨.inr ⟨_, rfl, s2⟩, .inr ⟨_, rfl, s3⟩, .inr ⟨_, rfl, s4 _⟩, trivial⟩, rfl, rfl⟩⟩
          | true =>
            have s2 : SubQ (rho [(2, 11)]) (bgB (gR eB (Q k)) (Q k).length) (B (k, true)) := by rw [hB]; exact bgB_sub _ hqn
            have s3 : SubQ (rho [(2, 11)]) (.cells (ofL [bgV 2 (Q k).length] 0) true none) (.cells (Cc (k, true)) true none) := by rw [hC]; exact cell_sub2 (show bgV 11 (Q k).length = _ from bgV_ren (ρ := rho [(2, 11)]) (b := 2) (b' := 11) rfl _)
            (conv => whnf); (repeat' (first | ((with_reducible refine ifb_mk (fun hc => ?_) (fun hc => ?_)) <;> ((try simp only [decide_eq_true_eq, decide_eq_false_iff_not, Bool.not_eq_true', Bool.not_eq_false', Int.not_lt, Int.not_le, ne_eq, Decidable.not_not, beq_iff_eq, List.cons.injEq, and_true] at hc); (first | (exfalso; omega) | exact absurd True.intro hc | conv => whnf))) | ((with_reducible refine And.intro True.intro ?_); conv => whnf) | ((with_reducible refine grd_and ?_); refine And.intro (hk) ?_; conv => whnf) | ((with_reducible refine And.intro ?hh ?_); (case hh => exact condA); conv => whnf) | fail))
            all_goals exact ⟨(i + 1, (Q k, f)), [(2, 11)], by dsimp only; omega, ⟨hbS, by dsimp only; omega, hjn2.symm, by dsimp only; omega⟩, ⟨rfl, rfl, (by (repeat' (first | exact True.intro | rfl | exact gr_ren rfl | exact aV_ren rfl | exact aW_ren rfl rfl | refine And.intro ?_ ?_))), (by (repeat' (first | exact True.intro | rfl | exact gr_ren rfl | exact aV_ren rfl | exact aW_ren rfl rfl | refine And.intro ?_ ?_))), (by (repeat' (first | exact True.intro | rfl | exact gr_ren rfl | exact aV_ren rfl | exact aW_ren rfl rfl | refine And.intro ?_ ?_))), ⟨.inr ⟨_, rfl, s2⟩, .inr ⟨_, rfl, s3⟩, .inr ⟨_, rfl, s4 _⟩, trivial⟩, rfl, rfl⟩⟩
      | cons y q1 =>
        have hi' : i < q1.length + 2 := hi
        have hl2 : q1.length + 2 ≤ 1024 := hlen.2
        (conv => whnf); (repeat' (first | ((with_reducible refine ifb_mk (fun hc => ?_) (fun hc => ?_)) <;> ((try simp only [decide_eq_true_eq, decide_eq_false_iff_not, Bool.not_eq_true', Bool.not_eq_false', Int.not_lt, Int.not_le, ne_eq, Decidable.not_not, beq_iff_eq, List.cons.injEq, and_true] at hc); (first | (exfalso; omega) | exact absurd True.intro hc | conv => whnf))) | ((with_reducible refine And.intro True.intro ?_); conv => whnf) | ((with_reducible refine grd_and ?_); refine And.intro (hi) ?_; conv => whnf) | ((with_reducible refine grd_getN ?_); refine som_mk (a := ?_) ?hh ?_; (case hh => exact hgN _ (by show 0 + Int.toNat (i : Int) * 2 = i * 2; omega)); conv => whnf) | ((with_reducible refine CallX.all (f := 94) ?_); refine CallW.inline Try.func94 rfl rfl (Nat.le_of_ble_eq_true rfl) (WpR.of_vc ?_); conv => whnf) | ((with_reducible refine RangeX.all ?_); conv => whnf) | ((with_reducible refine CallW.inline (f := 109) Try.func109 rfl rfl (Nat.le_of_ble_eq_true rfl) (WpR.of_vc ?_)); conv => whnf) | ((with_reducible refine And.intro ?hh ?_); (case hh => exact condA); conv => whnf) | fail))
        clear hMap hMapA
        have hMap := hAl
        have hMapA := hCl
        have hMapD := hBl
        have hMapB := hlt 12
        have hMapE := hlt 11
        have hs1 : SubQ (rho []) (A false) (.cells (ofL (gR eB (x :: y :: q1)) 0) true (some (2, (q1.length + 2) * 2))) := by rw [hA2]; exact SubQ.ofL rfl (gB_bare _) (.inr rfl)
        have hs2 : SubQ (rho []) (.cells (Cc (0, false)) true none) (.cells (ofL [.sl 2 0 (q1.length + 2) (q1.length + 2) false] 0) true none) := by rw [hC]; exact SubQ.fin (by (conv => whnf); (repeat' (first | exact True.intro | rfl | refine And.intro ?_ ?_)); done) (fun h => h) (.inr rfl)
        have hs3 : SubQ (rho []) (.map (meM (Q 0)) ((Q 0).length - 1)) (.map (meM (x :: y :: q1)) ((x :: y :: q1).length - 1)) := by rw [hI0]; exact meM_sub _ _
        have hs4 : B (0, false) = .dead := hB _
        refine WpR.loopA (ι := Nat × Bool) [11] [0, 1, 2, 9] [2, 3, 4, 11] [] 12 (fun k => [(10, .int .i64 k.1)]) (fun k => [(2, A k.2), (3, .cells (Cc k) true none), (4, .map (meM (Q k.1)) ((Q k.1).length - 1)), (11, B k)]) (fun k => S - k.1) (fun k => k.1 ≤ S ∧ (k.2 = false → Q k.1 = (x :: y :: q1)) ∧ (k.2 = true → 2 ≤ (Q k.1).length)) ?_ ((0, false)) (⟨Nat.zero_le _, fun _ => hI0, fun h => by cases h⟩) [] ⟨rfl, rfl, (by (repeat' (first | exact True.intro | rfl | exact gr_ren rfl | exact aV_ren rfl | exact aW_ren rfl rfl | refine And.intro ?_ ?_))), (by (repeat' (first | exact True.intro | rfl | exact gr_ren rfl | exact aV_ren rfl | exact aW_ren rfl rfl | refine And.intro ?_ ?_))), (by (repeat' (first | exact True.intro | rfl | exact gr_ren rfl | exact aV_ren rfl | exact aW_ren rfl rfl | refine And.intro ?_ ?_))), ⟨.inr ⟨_, rfl, hs1⟩, .inr ⟨_, rfl, hs2⟩, .inr ⟨_, rfl, hs3⟩, .inl hs4, trivial⟩, rfl, rfl⟩
        rintro ⟨k, g⟩ ⟨k1, k2, k3⟩
        dsimp only at k1 k2 k3
        refine WpR.of_vc ?_
        by_cases hk : k < S
        · have c1 := fun h' => has_ok h' p.2 k hp216 (by omega)
          have c2 := fun h' => isWithin_ok h' (br k) p.2
          have c3 := fun h' => bwith_ok h' (p.1 : Int) p.2 k (by omega) hp216 (by omega)
          have hgk := fun o (ho : o = 12 + k) => sk_br (S := S) (lv := lv) (lk := lk) (br := br) (mk := mk) ho (by omega : k < 10)
          have hfk := hfind k (by omega)
          have hek := hel k
          have hIk := hIS k
          have sA : ∀ g, A g = .dead ∨ ∃ b', some (A g) = some b' ∧ SubQ (rho []) (A g) b' := fun g => by
            cases g
            · exact .inr ⟨_, rfl, by rw [hA2]; exact SubQ.ofL rfl (gB_bare _) (.inr rfl)⟩
            · exact .inl hA1
          have sC : Q (k + 1) = Q k → SubQ (rho []) (.cells (Cc (k + 1, g)) true none) (.cells (Cc (k, g)) true none) := fun e => by
            have : Cc (k + 1, g) = Cc (k, g) := by rw [hC, hC]; dsimp only; rw [e]
            rw [this]; exact SubQ.same (n := 1000) (Y := []) (fun _ _ _ => rfl) (hCl 988 _) (avB_nil _) rfl
          have sM : Q (k + 1) = Q k → SubQ (rho []) (.map (meM (Q (k + 1))) ((Q (k + 1)).length - 1)) (.map (meM (Q k)) ((Q k).length - 1)) := fun e => by rw [e]; exact meM_sub _ _
          have sB : Q (k + 1) = Q k → B (k + 1, g) = .dead ∨ ∃ b', some (B (k, g)) = some b' ∧ SubQ (rho []) (B (k + 1, g)) b' := fun e => by
            have : B (k + 1, g) = B (k, g) := by rw [hB, hB]; dsimp only; rw [e]
            rw [this]
            cases g
            · exact .inl (hB _)
            · refine .inr ⟨_, rfl, ?_⟩
              refine SubQ.same (n := 1000) (Y := []) (fun _ _ _ => rfl) (hBl _ _) (avB_nil _) ?_
              rw [hB]
              have := k3 rfl
              cases hq : Q k with
              | nil => rw [hq] at this; exact absurd this (by decide)
              | cons u r =>
                cases r with
                | nil => rfl
                | cons v r => rfl
          cases hb : p.2.testBit k with
          | true =>
            rw [hb] at c1 hek
            rw [hek, if_neg (fun h => by cases h.1)] at hIk
            (conv => whnf); (repeat' (first | ((with_reducible refine ifb_mk (fun hc => ?_) (fun hc => ?_)) <;> ((try simp only [decide_eq_true_eq, decide_eq_false_iff_not, Bool.not_eq_true', Bool.not_eq_false', Int.not_lt, Int.not_le, ne_eq, Decidable.not_not, beq_iff_eq, List.cons.injEq, and_true] at hc); (first | (exfalso; omega) | exact absurd True.intro hc | conv => whnf))) | ((with_reducible refine And.intro True.intro ?_); conv => whnf) | ((with_reducible refine grd_and ?_); refine And.intro (hk) ?_; conv => whnf) | ((with_reducible refine WpR.drawTail (id := 3) mixed 19 [0, 1, 2, 3, 4, 5, 6, 7, 8, 9, 10, 11, 12, 13, 14, 15, 16, 17, 18] [0, 1, 0, 7, 15, 31, 63, 63, 127, 383, 1023, 2047, 63, 4159, 16383, 32767, 65535, 131071, 131071] ?hh ?hk ?_); (case hh => kernel_rfl); (case hk => kernel_rfl); conv => whnf) | ((with_reducible refine grd_ex ?_); refine ex_ok (c1 _) ?_; conv => whnf) | ((with_reducible refine CallX.all ?_); refine CallW.of_ok (c1 _) ?_; conv => whnf) | ((with_reducible refine grd_ex ?_); refine ex_ok (c2 _) ?_; conv => whnf) | ((with_reducible refine CallX.all ?_); refine CallW.of_ok (c2 _) ?_; conv => whnf) | ((with_reducible refine grd_get ?_); refine som_mk (a := ?_) ?hh ?_; (case hh => exact hgk _ (by show 12 + Int.toNat (k : Int) * 1 = 12 + k; omega)); conv => whnf) | ((with_reducible refine And.intro ?hh ?_); (case hh => exact condA); conv => whnf) | fail))
            all_goals exact ⟨(k + 1, g), [], by dsimp only; omega, ⟨by dsimp only; omega, fun h => by dsimp only; rw [hIk]; exact k2 h, fun h => by dsimp only; rw [hIk]; exact k3 h⟩, ⟨rfl, rfl, (by (repeat' (first | exact True.intro | rfl | exact gr_ren rfl | exact aV_ren rfl | exact aW_ren rfl rfl | refine And.intro ?_ ?_))), (by (repeat' (first | exact True.intro | rfl | exact gr_ren rfl | exact aV_ren rfl | exact aW_ren rfl rfl | refine And.intro ?_ ?_))), (by (repeat' (first | exact True.intro | rfl | exact gr_ren rfl | exact aV_ren rfl | exact aW_ren rfl rfl | refine And.intro ?_ ?_))), ⟨sA _, .inr ⟨_, rfl, sC hIk⟩, .inr ⟨_, rfl, sM hIk⟩, sB hIk, trivial⟩, rfl, rfl⟩⟩
          | false =>
            rw [hb] at c1 hek
            cases hsb : subB (br k) p.2 with
            | false =>
              rw [hsb] at c2 hek
              rw [hek, if_neg (fun h => by cases h.1)] at hIk
              (conv => whnf); (repeat' (first | ((with_reducible refine ifb_mk (fun hc => ?_) (fun hc => ?_)) <;> ((try simp only [decide_eq_true_eq, decide_eq_false_iff_not, Bool.not_eq_true', Bool.not_eq_false', Int.not_lt, Int.not_le, ne_eq, Decidable.not_not, beq_iff_eq, List.cons.injEq, and_true] at hc); (first | (exfalso; omega) | exact absurd True.intro hc | conv => whnf))) | ((with_reducible refine And.intro True.intro ?_); conv => whnf) | ((with_reducible refine grd_and ?_); refine And.intro (hk) ?_; conv => whnf) | ((with_reducible refine WpR.drawTail (id := 3) mixed 19 [0, 1, 2, 3, 4, 5, 6, 7, 8, 9, 10, 11, 12, 13, 14, 15, 16, 17, 18] [0, 1, 0, 7, 15, 31, 63, 63, 127, 383, 1023, 2047, 63, 4159, 16383, 32767, 65535, 131071, 131071] ?hh ?hk ?_); (case hh => kernel_rfl); (case hk => kernel_rfl); conv => whnf) | ((with_reducible refine grd_ex ?_); refine ex_ok (c1 _) ?_; conv => whnf) | ((with_reducible refine CallX.all ?_); refine CallW.of_ok (c1 _) ?_; conv => whnf) | ((with_reducible refine grd_ex ?_); refine ex_ok (c2 _) ?_; conv => whnf) | ((with_reducible refine CallX.all ?_); refine CallW.of_ok (c2 _) ?_; conv => whnf) | ((with_reducible refine grd_get ?_); refine som_mk (a := ?_) ?hh ?_; (case hh => exact hgk _ (by show 12 + Int.toNat (k : Int) * 1 = 12 + k; omega)); conv => whnf) | ((with_reducible refine And.intro ?hh ?_); (case hh => exact condA); conv => whnf) | fail))
              all_goals exact ⟨(k + 1, g), [], by dsimp only; omega, ⟨by dsimp only; omega, fun h => by dsimp only; rw [hIk]; exact k2 h, fun h => by dsimp only; rw [hIk]; exact k3 h⟩, ⟨rfl, rfl, (by (repeat' (first | exact True.intro | rfl | exact gr_ren rfl | exact aV_ren rfl | exact aW_ren rfl rfl | refine And.intro ?_ ?_))), (by (repeat' (first | exact True.intro | rfl | exact gr_ren rfl | exact aV_ren rfl | exact aW_ren rfl rfl | refine And.intro ?_ ?_))), (by (repeat' (first | exact True.intro | rfl | exact gr_ren rfl | exact aV_ren rfl | exact aW_ren rfl rfl | refine And.intro ?_ ?_))), ⟨sA _, .inr ⟨_, rfl, sC hIk⟩, .inr ⟨_, rfl, sM hIk⟩, sB hIk, trivial⟩, rfl, rfl⟩⟩
            | true =>
              rw [hsb] at c2 hek
              have hek : elB br p.2 k = true := hek
              rcases hfk with ⟨hmem, j, ⟨ea, ev, ec⟩, f1, f2, f3⟩ | ⟨hmem, f1⟩
              · dsimp only at f3
                subst f3
                rw [if_neg (fun h => h.2 hmem)] at hIk
                (conv => whnf); (repeat' (first | ((with_reducible refine ifb_mk (fun hc => ?_) (fun hc => ?_)) <;> ((try simp only [decide_eq_true_eq, decide_eq_false_iff_not, Bool.not_eq_true', Bool.not_eq_false', Int.not_lt, Int.not_le, ne_eq, Decidable.not_not, beq_iff_eq, List.cons.injEq, and_true] at hc); (first | (exfalso; omega) | exact absurd True.intro hc | conv => whnf))) | ((with_reducible refine And.intro True.intro ?_); conv => whnf) | ((with_reducible refine grd_and ?_); refine And.intro (hk) ?_; conv => whnf) | ((with_reducible refine WpR.drawTail (id := 3) mixed 19 [0, 1, 2, 3, 4, 5, 6, 7, 8, 9, 10, 11, 12, 13, 14, 15, 16, 17, 18] [0, 1, 0, 7, 15, 31, 63, 63, 127, 383, 1023, 2047, 63, 4159, 16383, 32767, 65535, 131071, 131071] ?hh ?hk ?_); (case hh => kernel_rfl); (case hk => kernel_rfl); conv => whnf) | ((with_reducible refine grd_ex ?_); refine ex_ok (c1 _) ?_; conv => whnf) | ((with_reducible refine CallX.all ?_); refine CallW.of_ok (c1 _) ?_; conv => whnf) | ((with_reducible refine grd_ex ?_); refine ex_ok (c2 _) ?_; conv => whnf) | ((with_reducible refine CallX.all ?_); refine CallW.of_ok (c2 _) ?_; conv => whnf) | ((with_reducible refine grd_get ?_); refine som_mk (a := ?_) ?hh ?_; (case hh => exact hgk _ (by show 12 + Int.toNat (k : Int) * 1 = 12 + k; omega)); conv => whnf) | ((with_reducible refine And.intro ?hh ?_); (case hh => exact condA); conv => whnf) | fail))
                refine YldX.all ?_
                refine YldW.inline rfl rfl rfl (WpR.of_vc ?_)
                conv => whnf
                refine ⟨rfl, _, rfl, rfl, WpR.of_vc ?_⟩
                (conv => whnf); (repeat' (first | ((with_reducible refine ifb_mk (fun hc => ?_) (fun hc => ?_)) <;> ((try simp only [decide_eq_true_eq, decide_eq_false_iff_not, Bool.not_eq_true', Bool.not_eq_false', Int.not_lt, Int.not_le, ne_eq, Decidable.not_not, beq_iff_eq, List.cons.injEq, and_true] at hc); (first | (exfalso; omega) | exact absurd True.intro hc | conv => whnf))) | ((with_reducible refine And.intro True.intro ?_); conv => whnf) | ((with_reducible refine CallX.all ?_); refine CallW.of_ok (c3 _) ?_; conv => whnf) | ((with_reducible refine CallX.all (f := 68) ?_); refine CallW.inline Try.func68 rfl rfl (Nat.le_of_ble_eq_true rfl) (WpR.of_vc ?_); conv => whnf) | (refine som_mk (f1 _) ?_; conv => whnf) | (refine som_mk (f2) ?_; conv => whnf) | ((with_reducible refine And.intro ?hh ?_); (case hh => exact condA); conv => whnf) | fail))
                refine ⟨_, _, rfl, ?_⟩
                (conv => whnf); (repeat' (first | ((with_reducible refine ifb_mk (fun hc => ?_) (fun hc => ?_)) <;> ((try simp only [decide_eq_true_eq, decide_eq_false_iff_not, Bool.not_eq_true', Bool.not_eq_false', Int.not_lt, Int.not_le, ne_eq, Decidable.not_not, beq_iff_eq, List.cons.injEq, and_true] at hc); (first | (exfalso; omega) | exact absurd True.intro hc | conv => whnf))) | ((with_reducible refine And.intro True.intro ?_); conv => whnf) | ((with_reducible refine And.intro ?hh ?_); (case hh => exact condA); conv => whnf) | fail))
                all_goals exact ⟨(k + 1, g), [], by dsimp only; omega, ⟨by dsimp only; omega, fun h => by dsimp only; rw [hIk]; exact k2 h, fun h => by dsimp only; rw [hIk]; exact k3 h⟩, ⟨rfl, rfl, (by (repeat' (first | exact True.intro | rfl | exact gr_ren rfl | exact aV_ren rfl | exact aW_ren rfl rfl | refine And.intro ?_ ?_))), (by (repeat' (first | exact True.intro | rfl | exact gr_ren rfl | exact aV_ren rfl | exact aW_ren rfl rfl | refine And.intro ?_ ?_))), (by (repeat' (first | exact True.intro | rfl | exact gr_ren rfl | exact aV_ren rfl | exact aW_ren rfl rfl | refine And.intro ?_ ?_))), ⟨sA _, .inr ⟨_, rfl, sC hIk⟩, .inr ⟨_, rfl, sM hIk⟩, sB hIk, trivial⟩, rfl, rfl⟩⟩
              · rw [if_pos ⟨hek, hmem⟩] at hIk
                have hql := hQl k (by omega)
                have hqn : Q k ≠ [] := fun e => by have := hIl k; rw [e] at this; exact absurd this (by simp)
                have sMn : ∀ ρ : Nat → Nat, SubQ ρ (.map (meM (Q (k + 1))) ((Q (k + 1)).length - 1)) (.map (meM (Q k) ++ [(kyB (loB p k), .bool true, (Q k).length - 1)]) ((Q k).length - 1 + 1)) := fun ρ => by
                  obtain ⟨e1, e2⟩ := meM_cons (loB p k) hqn
                  rw [hIk, ← e1, ← e2]; exact meM_sub _ _
                cases g with
                | false =>
                  have hQk := k2 rfl
                  have hCg : (Cc (k, false)).get 0 = some (.sl 2 0 (q1.length + 2) (q1.length + 2) false) := by rw [hC]; rfl
                  have hCp : ∀ v, putN [v] (Cc (k, false)) 0 = some ((Cc (k, false)).set 0 v) := fun v => putN_one hCg
                  (conv => whnf); (repeat' (first | ((with_reducible refine ifb_mk (fun hc => ?_) (fun hc => ?_)) <;> ((try simp only [decide_eq_true_eq, decide_eq_false_iff_not, Bool.not_eq_true', Bool.not_eq_false', Int.not_lt, Int.not_le, ne_eq, Decidable.not_not, beq_iff_eq, List.cons.injEq, and_true] at hc); (first | (exfalso; omega) | exact absurd True.intro hc | conv => whnf))) | ((with_reducible refine And.intro True.intro ?_); conv => whnf) | ((with_reducible refine grd_and ?_); refine And.intro (hk) ?_; conv => whnf) | ((with_reducible refine WpR.drawTail (id := 3) mixed 19 [0, 1, 2, 3, 4, 5, 6, 7, 8, 9, 10, 11, 12, 13, 14, 15, 16, 17, 18] [0, 1, 0, 7, 15, 31, 63, 63, 127, 383, 1023, 2047, 63, 4159, 16383, 32767, 65535, 131071, 131071] ?hh ?hk ?_); (case hh => kernel_rfl); (case hk => kernel_rfl); conv => whnf) | ((with_reducible refine grd_ex ?_); refine ex_ok (c1 _) ?_; conv => whnf) | ((with_reducible refine CallX.all ?_); refine CallW.of_ok (c1 _) ?_; conv => whnf) | ((with_reducible refine grd_ex ?_); refine ex_ok (c2 _) ?_; conv => whnf) | ((with_reducible refine CallX.all ?_); refine CallW.of_ok (c2 _) ?_; conv => whnf) | ((with_reducible refine grd_get ?_); refine som_mk (a := ?_) ?hh ?_; (case hh => exact hgk _ (by show 12 + Int.toNat (k : Int) * 1 = 12 + k; omega)); conv => whnf) | ((with_reducible refine And.intro ?hh ?_); (case hh => exact condA); conv => whnf) | fail))
                  refine YldX.all ?_
                  refine YldW.inline rfl rfl rfl (WpR.of_vc ?_)
                  conv => whnf
                  refine ⟨rfl, _, rfl, rfl, WpR.of_vc ?_⟩
                  have hAf : A false = .cells (ofL (gR eB (x :: y :: q1)) 0) true (some (2, (q1.length + 2) * 2)) := hA2
                  have sC1 : SubQ (rho [(11, 15)]) (.cells (Cc (k + 1, true)) true none) (.cells ((Cc (k, false)).set 0 (.sl 15 0 (q1.length + 2 + 1) (q1.length + 2 + 1) false)) true none) := by
                    rw [hC]; dsimp only; rw [hIk, hQk]; exact cell_sub rfl
                  have sB1 : SubQ (rho [(11, 15)]) (B (k + 1, true)) (.cells (ofL (gR eB (x :: y :: q1) ++ eB (loB p k)) 0) true (some (2, (q1.length + 2 + 1) * 2))) := by
                    rw [hB]; dsimp only; rw [hIk, hQk]; exact SubQ.ofL rfl (gB_bare _) (.inr rfl)
                  (conv => whnf); (repeat' (first | ((with_reducible refine ifb_mk (fun hc => ?_) (fun hc => ?_)) <;> ((try simp only [decide_eq_true_eq, decide_eq_false_iff_not, Bool.not_eq_true', Bool.not_eq_false', Int.not_lt, Int.not_le, ne_eq, Decidable.not_not, beq_iff_eq, List.cons.injEq, and_true] at hc); (first | (exfalso; omega) | exact absurd True.intro hc | conv => whnf))) | ((with_reducible refine And.intro True.intro ?_); conv => whnf) | ((with_reducible refine CallX.all ?_); refine CallW.of_ok (c3 _) ?_; conv => whnf) | ((with_reducible refine CallX.all (f := 68) ?_); refine CallW.inline Try.func68 rfl rfl (Nat.le_of_ble_eq_true rfl) (WpR.of_vc ?_); conv => whnf) | (refine som_mk (f1 _) ?_; conv => whnf) | (refine som_mk (hCg) ?_; conv => whnf) | ((with_reducible refine grd_putN ?_); refine som_mk (a := ?_) ?hh ?_; (case hh => exact hCp _); conv => whnf) | (refine AppX.own (n := 1) (L := gR eB (x :: y :: q1)) (len := q1.length + 2) (congrArg some hAf) (by rw [gB_len]; rfl) (gB_one _) (by omega) (by omega) ?_; conv => whnf) | ((with_reducible refine And.intro ?hh ?_); (case hh => exact condA); conv => whnf) | fail))
                  refine ⟨_, _, rfl, ?_⟩
                  (conv => whnf); (repeat' (first | ((with_reducible refine ifb_mk (fun hc => ?_) (fun hc => ?_)) <;> ((try simp only [decide_eq_true_eq, decide_eq_false_iff_not, Bool.not_eq_true', Bool.not_eq_false', Int.not_lt, Int.not_le, ne_eq, Decidable.not_not, beq_iff_eq, List.cons.injEq, and_true] at hc); (first | (exfalso; omega) | exact absurd True.intro hc | conv => whnf))) | ((with_reducible refine And.intro True.intro ?_); conv => whnf) | ((with_reducible refine And.intro ?hh ?_); (case hh => exact condA); conv => whnf) | fail))
                  all_goals exact ⟨(k + 1, true), [(11, 15)], by dsimp only; omega, ⟨by dsimp only; omega, fun h => (by cases h), fun _ => (by dsimp only; rw [hIk, hQk]; simp)⟩, ⟨rfl, rfl, (by (repeat' (first | exact True.intro | rfl | exact gr_ren rfl | exact aV_ren rfl | exact aW_ren rfl rfl | refine And.intro ?_ ?_))), (by (repeat' (first | exact True.intro | rfl | exact gr_ren rfl | exact aV_ren rfl | exact aW_ren rfl rfl | refine And.intro ?_ ?_))), (by (repeat' (first | exact True.intro | rfl | exact gr_ren rfl | exact aV_ren rfl | exact aW_ren rfl rfl | refine And.intro ?_ ?_))), ⟨.inl hA1, .inr ⟨_, rfl, sC1⟩, .inr ⟨_, rfl, sMn _⟩, .inr ⟨_, rfl, sB1⟩, trivial⟩, rfl, rfl⟩⟩
                | true =>
                  obtain ⟨m, hm⟩ : ∃ m, (Q k).length = m + 2 := ⟨(Q k).length - 2, by have := k3 rfl; omega⟩
                  have hCg : (Cc (k, true)).get 0 = some (.sl 11 0 (m + 2) (m + 2) false) := by rw [hC]; dsimp only; rw [hm]; rfl
                  have hCp : ∀ v, putN [v] (Cc (k, true)) 0 = some ((Cc (k, true)).set 0 v) := fun v => putN_one hCg
                  have hBk : B (k, true) = .cells (ofL (gR eB (Q k)) 0) true (some (2, (m + 2) * 2)) := by rw [hB]; dsimp only; rw [hm]; rfl
                  have sC1 : SubQ (rho [(11, 15)]) (.cells (Cc (k + 1, true)) true none) (.cells ((Cc (k, true)).set 0 (.sl 15 0 (m + 2 + 1) (m + 2 + 1) false)) true none) := by
                    rw [hC]; dsimp only; rw [hIk, List.length_cons, hm]; exact cell_sub rfl
                  have sB1 : SubQ (rho [(11, 15)]) (B (k + 1, true)) (.cells (ofL (gR eB (Q k) ++ eB (loB p k)) 0) true (some (2, (m + 2 + 1) * 2))) := by
                    rw [hB]; dsimp only; rw [hIk, List.length_cons, hm]; exact SubQ.ofL rfl (gB_bare _) (.inr rfl)
                  (conv => whnf); (repeat' (first | ((with_reducible refine ifb_mk (fun hc => ?_) (fun hc => ?_)) <;> ((try simp only [decide_eq_true_eq, decide_eq_false_iff_not, Bool.not_eq_true', Bool.not_eq_false', Int.not_lt, Int.not_le, ne_eq, Decidable.not_not, beq_iff_eq, List.cons.injEq, and_true] at hc); (first | (exfalso; omega) | exact absurd True.intro hc | conv => whnf))) | ((with_reducible refine And.intro True.intro ?_); conv => whnf) | ((with_reducible refine grd_and ?_); refine And.intro (hk) ?_; conv => whnf) | ((with_reducible refine WpR.drawTail (id := 3) mixed 19 [0, 1, 2, 3, 4, 5, 6, 7, 8, 9, 10, 11, 12, 13, 14, 15, 16, 17, 18] [0, 1, 0, 7, 15, 31, 63, 63, 127, 383, 1023, 2047, 63, 4159, 16383, 32767, 65535, 131071, 131071] ?hh ?hk ?_); (case hh => kernel_rfl); (case hk => kernel_rfl); conv => whnf) | ((with_reducible refine grd_ex ?_); refine ex_ok (c1 _) ?_; conv => whnf) | ((with_reducible refine CallX.all ?_); refine CallW.of_ok (c1 _) ?_; conv => whnf) | ((with_reducible refine grd_ex ?_); refine ex_ok (c2 _) ?_; conv => whnf) | ((with_reducible refine CallX.all ?_); refine CallW.of_ok (c2 _) ?_; conv => whnf) | ((with_reducible refine grd_get ?_); refine som_mk (a := ?_) ?hh ?_; (case hh => exact hgk _ (by show 12 + Int.toNat (k : Int) * 1 = 12 + k; omega)); conv => whnf) | ((with_reducible refine And.intro ?hh ?_); (case hh => exact condA); conv => whnf) | fail))
                  refine YldX.all ?_
                  refine YldW.inline rfl rfl rfl (WpR.of_vc ?_)
                  conv => whnf
                  refine ⟨rfl, _, rfl, rfl, WpR.of_vc ?_⟩
                  (conv => whnf); (repeat' (first | ((with_reducible refine ifb_mk (fun hc => ?_) (fun hc => ?_)) <;> ((try simp only [decide_eq_true_eq, decide_eq_false_iff_not, Bool.not_eq_true', Bool.not_eq_false', Int.not_lt, Int.not_le, ne_eq, Decidable.not_not, beq_iff_eq, List.cons.injEq, and_true] at hc); (first | (exfalso; omega) | exact absurd True.intro hc | conv => whnf))) | ((with_reducible refine And.intro True.intro ?_); conv => whnf) | ((with_reducible refine CallX.all ?_); refine CallW.of_ok (c3 _) ?_; conv => whnf) | ((with_reducible refine CallX.all (f := 68) ?_); refine CallW.inline Try.func68 rfl rfl (Nat.le_of_ble_eq_true rfl) (WpR.of_vc ?_); conv => whnf) | (refine som_mk (f1 _) ?_; conv => whnf) | (refine som_mk (hCg) ?_; conv => whnf) | ((with_reducible refine grd_putN ?_); refine som_mk (a := ?_) ?hh ?_; (case hh => exact hCp _); conv => whnf) | (refine AppX.own (n := 1) (L := gR eB (Q k)) (len := m + 2) (congrArg some hBk) (by rw [gB_len, hm]; rfl) (gB_one _) (by omega) (by omega) ?_; conv => whnf) | ((with_reducible refine And.intro ?hh ?_); (case hh => exact condA); conv => whnf) | fail))
                  refine ⟨_, _, rfl, ?_⟩
                  (conv => whnf); (repeat' (first | ((with_reducible refine ifb_mk (fun hc => ?_) (fun hc => ?_)) <;> ((try simp only [decide_eq_true_eq, decide_eq_false_iff_not, Bool.not_eq_true', Bool.not_eq_false', Int.not_lt, Int.not_le, ne_eq, Decidable.not_not, beq_iff_eq, List.cons.injEq, and_true] at hc); (first | (exfalso; omega) | exact absurd True.intro hc | conv => whnf))) | ((with_reducible refine And.intro True.intro ?_); conv => whnf) | ((with_reducible refine And.intro ?hh ?_); (case hh => exact condA); conv => whnf) | fail))
                  all_goals exact ⟨(k + 1, true), [(11, 15)], by dsimp only; omega, ⟨by dsimp only; omega, fun h => (by cases h), fun _ => (by dsimp only; rw [hIk, List.length_cons]; omega)⟩, ⟨rfl, rfl, (by (repeat' (first | exact True.intro | rfl | exact gr_ren rfl | exact aV_ren rfl | exact aW_ren rfl rfl | refine And.intro ?_ ?_))), (by (repeat' (first | exact True.intro | rfl | exact gr_ren rfl | exact aV_ren rfl | exact aW_ren rfl rfl | refine And.intro ?_ ?_))), (by (repeat' (first | exact True.intro | rfl | exact gr_ren rfl | exact aV_ren rfl | exact aW_ren rfl rfl | refine And.intro ?_ ?_))), ⟨.inl hA1, .inr ⟨_, rfl, sC1⟩, .inr ⟨_, rfl, sMn _⟩, .inr ⟨_, rfl, sB1⟩, trivial⟩, rfl, rfl⟩⟩
        · have ek : k = S := by omega
          subst ek
          have hqn : Q k ≠ [] := fun e => by have := hIl k; rw [e] at this; exact absurd this (by simp)
          have hil := hIl k
          simp only [List.length_cons] at hil
          have s4 : ∀ ρ : Nat → Nat, SubQ ρ (.map (meM (Q k)) ((Q k).length - 1)) (.map (meM (Q k)) ((Q k).length - 1)) := fun ρ => meM_sub _ _
          cases g with
          | false =>
            have hQk := k2 rfl
            have s2 : SubQ (rho []) (bgB (gR eB (Q k)) (Q k).length) (A false) := by rw [hA2, hQk]; exact bgB_sub _ (by simp)
            have s3 : SubQ (rho []) (.cells (ofL [bgV 2 (Q k).length] 0) true none) (.cells (Cc (k, false)) true none) := by rw [hC, hQk]; exact cell_sub2 (show bgV 2 (x :: y :: q1).length = _ from bgV_ren (ρ := rho []) (b := 2) (b' := 2) rfl _)
            (conv => whnf); (repeat' (first | ((with_reducible refine ifb_mk (fun hc => ?_) (fun hc => ?_)) <;> ((try simp only [decide_eq_true_eq, decide_eq_false_iff_not, Bool.not_eq_true', Bool.not_eq_false', Int.not_lt, Int.not_le, ne_eq, Decidable.not_not, beq_iff_eq, List.cons.injEq, and_true] at hc); (first | (exfalso; omega) | exact absurd True.intro hc | conv => whnf))) | ((with_reducible refine And.intro True.intro ?_); conv => whnf) | ((with_reducible refine grd_and ?_); refine And.intro (hk) ?_; conv => whnf) | ((with_reducible refine And.intro ?hh ?_); (case hh => exact condA); conv => whnf) | fail))
            all_goals exact ⟨(i + 1, (Q k, f)), [], by dsimp only; omega, ⟨hbS, by dsimp only; omega, hjn2.symm, by dsimp only; omega⟩, ⟨rfl, rfl, (by (repeat' (first | exact True.intro | rfl | exact gr_ren rfl | exact aV_ren rfl | exact aW_ren rfl rfl | refine And.intro ?_ ?_))), (by (repeat' (first | exact True.intro | rfl | exact gr_ren rfl | exact aV_ren rfl | exact aW_ren rfl rfl | refine And.intro ?_ ?_))), (by (repeat' (first | exact True.intro | rfl | exact gr_ren rfl | exact aV_ren rfl | exact aW_ren rfl rfl | refine And.intro ?_ ?_))), ⟨.inr ⟨_, rfl, s2⟩, .inr ⟨_, rfl, s3⟩, .inr ⟨_, rfl, s4 _⟩, trivial⟩, rfl, rfl⟩⟩
          | true =>
            have s2 : SubQ (rho [(2, 11)]) (bgB (gR eB (Q k)) (Q k).length) (B (k, true)) := by rw [hB]; exact bgB_sub _ hqn
            have s3 : SubQ (rho [(2, 11)]) (.cells (ofL [bgV 2 (Q k).length] 0) true none) (.cells (Cc (k, true)) true none) := by rw [hC]; exact cell_sub2 (show bgV 11 (Q k).length = _ from bgV_ren (ρ := rho [(2, 11)]) (b := 2) (b' := 11) rfl _)
            (conv => whnf); (repeat' (first | ((with_reducible refine ifb_mk (fun hc => ?_) (fun hc => ?_)) <;> ((try simp only [decide_eq_true_eq, decide_eq_false_iff_not, Bool.not_eq_true', Bool.not_eq_false', Int.not_lt, Int.not_le, ne_eq, Decidable.not_not, beq_iff_eq, List.cons.injEq, and_true] at hc); (first | (exfalso; omega) | exact absurd True.intro hc | conv => whnf))) | ((with_reducible refine And.intro True.intro ?_); conv => whnf) | ((with_reducible refine grd_and ?_); refine And.intro (hk) ?_; conv => whnf) | ((with_reducible refine And.intro ?hh ?_); (case hh => exact condA); conv => whnf) | fail))
            all_goals exact ⟨(i + 1, (Q k, f)), [(2, 11)], by dsimp only; omega, ⟨hbS, by dsimp only; omega, hjn2.symm, by dsimp only; omega⟩, ⟨rfl, rfl, (by (repeat' (first | exact True.intro | rfl | exact gr_ren rfl | exact aV_ren rfl | exact aW_ren rfl rfl | refine And.intro ?_ ?_))), (by (repeat' (first | exact True.intro | rfl | exact gr_ren rfl | exact aV_ren rfl | exact aW_ren rfl rfl | refine And.intro ?_ ?_))), (by (repeat' (first | exact True.intro | rfl | exact gr_ren rfl | exact aV_ren rfl | exact aW_ren rfl rfl | refine And.intro ?_ ?_))), ⟨.inr ⟨_, rfl, s2⟩, .inr ⟨_, rfl, s3⟩, .inr ⟨_, rfl, s4 _⟩, trivial⟩, rfl, rfl⟩⟩
    · have hFq := bfI_end (br := br) (S := S) f i q hi
      rw [j2] at hFq
      subst hFq
      cases F with
      | nil => exact absurd hlen.1 (by decide)
      | cons x q1 =>
      cases q1 with
      | nil =>
        have hi' : ¬ i < 1 := hi
        (conv => whnf); (repeat' (first | ((with_reducible refine ifb_mk (fun hc => ?_) (fun hc => ?_)) <;> ((try simp only [decide_eq_true_eq, decide_eq_false_iff_not, Bool.not_eq_true', Bool.not_eq_false', Int.not_lt, Int.not_le, ne_eq, Decidable.not_not, beq_iff_eq, List.cons.injEq, and_true] at hc); (first | (exfalso; omega) | exact absurd True.intro hc | conv => whnf))) | ((with_reducible refine And.intro True.intro ?_); conv => whnf) | ((with_reducible refine grd_and ?_); refine And.intro (hi) ?_; conv => whnf) | ((with_reducible refine And.intro ?hh ?_); (case hh => exact condA); conv => whnf) | fail))
        refine ⟨[2], rfl, rfl, rfl, ⟨⟨bgB (gR eB [x]) ([x] : List Bg).length, ?h1, ?h2, ?h3⟩, bgB_lt (gR_bare eB_bare) _ _, rfl, trivial⟩, trivs⟩
        case h1 => rfl
        case h2 => rfl
        case h3 => exact bgB_sub _ (by simp)
      | cons y q1 =>
        have hi' : ¬ i < q1.length + 2 := hi
        (conv => whnf); (repeat' (first | ((with_reducible refine ifb_mk (fun hc => ?_) (fun hc => ?_)) <;> ((try simp only [decide_eq_true_eq, decide_eq_false_iff_not, Bool.not_eq_true', Bool.not_eq_false', Int.not_lt, Int.not_le, ne_eq, Decidable.not_not, beq_iff_eq, List.cons.injEq, and_true] at hc); (first | (exfalso; omega) | exact absurd True.intro hc | conv => whnf))) | ((with_reducible refine And.intro True.intro ?_); conv => whnf) | ((with_reducible refine grd_and ?_); refine And.intro (hi) ?_; conv => whnf) | ((with_reducible refine And.intro ?hh ?_); (case hh => exact condA); conv => whnf) | fail))
        refine ⟨[2], rfl, rfl, rfl, ⟨⟨bgB (gR eB (x :: y :: q1)) ((x :: y :: q1) : List Bg).length, ?h1, ?h2, ?h3⟩, bgB_lt (gR_bare eB_bare) _ _, rfl, trivial⟩, trivs⟩
        case h1 => rfl
        case h2 => rfl
        case h3 => exact bgB_sub _ (by simp)
end Go.Proofs.J

