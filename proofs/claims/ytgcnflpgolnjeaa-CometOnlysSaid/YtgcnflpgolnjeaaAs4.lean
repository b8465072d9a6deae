/- The machine that the proof runs on, part 4 of 6: texts of my own, put together by program. No statement is proved here. -/
import Derived.Test.YtgcnflpgolnjeaaAs3
import Derived.Deep.Slices
import Derived.ReadAgain
import Derived.OpenShut
import Derived.Below
import Derived.ChangeSame
set_option linter.unusedVariables false
set_option linter.unusedSimpArgs false
/- Runs on values that are not known: what a piece of code asks for, as a proposition. -/
namespace Go.As
structure Fr (w0 w : World) : Prop where
  os : w.os = w0.os
  tape : w.tape = w0.tape
  output : w.output = w0.output
  size : w0.heap.size ≤ w.heap.size
  frame : ∀ r, r < w0.heap.size → w.heap[r]? = w0.heap[r]?
theorem Fr.refl (w : World) : Fr w w := ⟨rfl, rfl, rfl, Nat.le_refl _, fun _ _ => rfl⟩
def Sat (w0 : World) (s : St) (a : Act) (w : World) : Prop := ∃ m, At none w0.heap.size m s a w ∧ Fr w0 w
theorem Fr.step {w0 w w' : World} {m m' : M} {h h' : H} (hf : Fr w0 w) (hr : HR w0.heap.size m h w) (hsr : SR w0.heap.size m h w m' h' w') : Fr w0 w' where
  os := hsr.os.trans hf.os
  tape := hsr.tape.trans hf.tape
  output := hsr.output.trans hf.output
  size := Nat.le_trans hf.size hsr.size
  frame := fun r hlt => by
    rw [hsr.frame r (Nat.lt_of_lt_of_le hlt hf.size) (fun i b s hi hw hm => by have := hr.own i b r s hi hw hm; omega)]
    exact hf.frame r hlt
theorem Sat.step {w0 : World} {s : St} {a : Act} {w : World} {m : M} (hat : At none w0.heap.size m s a w) (hf : Fr w0 w) {m' : M} {s' : St} {a' : Act} {w' : World} (hsr : SR w0.heap.size m s.h w m' s'.h w')
    (htr : TR m' s'.t s'.nt a'.tmps) (hmk : MK none m' s'.marks a'.defers) : Sat w0 s' a' w' :=
  ⟨m', ⟨hsr.hr, Nat.le_trans hat.base hsr.size, htr, hmk⟩, hf.step hat.hr hsr⟩
def Post (w0 : World) (Q : Ex → St → Prop) : Exit → Act → World → Prop := fun e a' w' => ∃ ex s', Q ex s' ∧ e = ex.to ∧ Sat w0 s' a' w'
structure WpC (P : Program) (c : Code) (s : St) (Q : Ex → St → Prop) : Prop where
  out : ∀ (w0 : World) (a : Act) (w : World), Sat w0 s a w → c.wpIn (rf none) 0 P (Post w0 Q) a w
def selfK (k : Memo) : Rq → Option Rs
  | .call f args h => (match k f args h with | some (v, h') => some (.val v h') | none => none)
  | _ => none
theorem selfK_sound {P : Program} {k : Memo} (hk : MemoOk P k) (base kf : Nat) : Sound P base kf (selfK k) where
  code := fun _ _ _ _ _ h => by cases h
  loop := fun _ _ _ _ _ h => by cases h
  yld := fun _ _ _ _ _ h => by cases h
  call := fun f args h v h' hc m w xs hr hB hvs => by
    have hc' : (match k f args h with | some (v, h') => some (Rs.val v h') | none => none) = some (.val v h') := hc
    cases ho : k f args h with
    | none => rw [ho] at hc'; cases hc'
    | some p => obtain ⟨v0, h0⟩ := p; rw [ho] at hc'; cases hc'; exact hk f args h v _ ho base m w xs hr hB hvs
open Classical in
noncomputable def memo1 (f : FuncId) (args : List V) (h : H) (v : V) (h' : H) : Memo := fun f1 a1 h1 => if f1 = f ∧ a1 = args ∧ h1 = h then some (v, h') else none
theorem memo1_ok {P : Program} {f : FuncId} {args : List V} {h : H} {v : V} {h' : H} (hc : CallOk P f args h v h') : MemoOk P (memo1 f args h v h') := by
  intro f1 a1 h1 v1 h1' he
  unfold memo1 at he
  split at he
  · rename_i hh
    obtain ⟨rfl, rfl, rfl⟩ := hh
    cases he
    exact hc
  · cases he
theorem memo1_self (f : FuncId) (args : List V) (h : H) (v : V) (h' : H) : memo1 f args h v h' f args h = some (v, h') := by
  unfold memo1; rw [if_pos ⟨rfl, rfl, rfl⟩]
abbrev som {α : Type} (x : Option α) (K : α → Prop) : Prop := match x with
  | some a => K a
  | none => False
theorem som_mk {α : Type} {x : Option α} {K : α → Prop} {a : α} (h : x = some a) (hK : K a) : som x K := by subst h; exact hK
theorem som_ex {α : Type} {x : Option α} {K : α → Prop} (h : som x K) : ∃ a, x = some a ∧ K a := by
  cases x with
  | none => exact h.elim
  | some a => exact ⟨a, rfl, h⟩
def InR (x : Int) : Prop := -9223372036854775808 ≤ x ∧ x ≤ 9223372036854775807
theorem inR_of {x : Int} (h : InR x) : inR x = true := by
  obtain ⟨h1, h2⟩ := h
  cases x with
  | ofNat n => show Nat.ble n _ = true; rw [Nat.ble_eq]; have : (Int.ofNat n) = (n : Int) := rfl; omega
  | negSucc n => show Nat.ble n _ = true; rw [Nat.ble_eq]; omega
abbrev ifb (b : Bool) (T F : Prop) : Prop := match b with
  | true => T
  | false => F
theorem ifb_mk {b : Bool} {T F : Prop} (h1 : b = true → T) (h2 : b = false → F) : ifb b T F := by
  cases b
  · exact h2 rfl
  · exact h1 rfl
theorem ifb_1 {b : Bool} {T F : Prop} (h : ifb b T F) (hb : b = true) : T := by subst hb; exact h
theorem ifb_2 {b : Bool} {T F : Prop} (h : ifb b T F) (hb : b = false) : F := by subst hb; exact h
def normN (n : Nat) : (Nat → Prop) → Prop := @Nat.rec (fun _ => (Nat → Prop) → Prop) (fun K => K 0) (fun _ ih K => ih fun m => K (m + 1)) n
theorem normN_eq : ∀ (n : Nat) (K : Nat → Prop), normN n K = K n
  | 0, _ => rfl
  | n + 1, K => normN_eq n fun m => K (m + 1)
def newP (h : H) (b : Blk) (K : Nat → H → Prop) : Prop := match h with
  | ⟨t, n, l⟩ => normN n fun n => strictT (t.set n b) fun t => K n ⟨t, n + 1, l⟩
theorem newP_eq (h : H) (b : Blk) (K : Nat → H → Prop) : newP h b K = K h.n (h.new b) := by
  obtain ⟨t, n, l⟩ := h
  show (normN n fun n => strictT (t.set n b) fun t => K n ⟨t, n + 1, l⟩) = _
  rw [normN_eq, strictT_eq]; rfl
def vcBin (P : Program) (op : BinOp) (ty : TypeId) (x y : Operand) (a b : Int) (K : V → Prop) : Prop := match op with
  | .add => InR (a + b) ∧ K (.int .i64 (a + b))
  | .sub => InR (a - b) ∧ K (.int .i64 (a - b))
  | .mul => InR (a * b) ∧ K (.int .i64 (a * b))
  | .lss => K (.bool (decide (a < b)))
  | .gtr => K (.bool (decide (b < a)))
  | .leq => K (.bool (decide (a ≤ b)))
  | .geq => K (.bool (decide (b ≤ a)))
  | .eql => K (.bool (decide (a = b)))
  | .neq => K (.bool (decide (a ≠ b)))
  | .quo => b ≠ 0 ∧ InR (a.tdiv b) ∧ K (.int .i64 (a.tdiv b))
  | .rem => b ≠ 0 ∧ InR (a.tmod b) ∧ K (.int .i64 (a.tmod b))
  | op => som (slow P op ty x y (.int .i64 a) (.int .i64 b)) K
def byteAt (s : List UInt8) (k : Nat) : Int := ((s.getD k 0).toNat : Nat)
def vcBinS (P : Program) (op : BinOp) (ty : TypeId) (x y : Operand) (a b : List UInt8) (K : V → Prop) : Prop := match op with
  | .add => a.length + b.length ≤ 9223372036854775807 ∧ K (.str ⟨⟨a ++ b⟩⟩)
  | .eql => K (.bool (decide (a = b)))
  | .neq => K (.bool (decide (a ≠ b)))
  | op => som (slow P op ty x y (.str ⟨⟨a⟩⟩) (.str ⟨⟨b⟩⟩)) K
theorem vcBinS_sound {P : Program} {op : BinOp} {ty : TypeId} {x y : Operand} {a b : List UInt8} {K : V → Prop} (h : vcBinS P op ty x y a b K) :
    ∃ v, (match fastS op ⟨⟨a⟩⟩ ⟨⟨b⟩⟩ with | some v => some v | none => slow P op ty x y (.str ⟨⟨a⟩⟩) (.str ⟨⟨b⟩⟩)) = some v ∧ K v := by
  cases op <;> simp only [vcBinS] at h <;> simp only [fastS]
  case add => refine ⟨_, ?_, h.2⟩; rw [Nat.ble_eq_true_of_le h.1]; dsimp only; rw [forceT_eq]
  case eql => exact ⟨_, by rw [beqB_dec], h⟩
  case neq => exact ⟨_, by rw [beqB_dec, ← decide_not], h⟩
  all_goals exact som_ex h
def vcBin8 (P : Program) (op : BinOp) (ty : TypeId) (x y : Operand) (a b : Int) (K : V → Prop) : Prop := match op with
  | .eql => K (.bool (decide (a = b)))
  | .neq => K (.bool (decide (a ≠ b)))
  | .lss => K (.bool (decide (a < b)))
  | op => som (slow P op ty x y (.int .u8 a) (.int .u8 b)) K
theorem vcBin8_sound {P : Program} {op : BinOp} {ty : TypeId} {x y : Operand} {a b : Int} {K : V → Prop} (h : vcBin8 P op ty x y a b K) :
    ∃ v, slow P op ty x y (.int .u8 a) (.int .u8 b) = some v ∧ K v := by
  cases op <;> simp only [vcBin8] at h
  case eql => refine ⟨_, ?_, h⟩; show some (V.bool (a == b)) = _; rw [show (a == b) = decide (a = b) from by rw [Bool.eq_iff_iff]; simp]
  case neq => refine ⟨_, ?_, h⟩; show some (V.bool (a != b)) = _; rw [show (a != b) = decide (a ≠ b) from by rw [Bool.eq_iff_iff]; simp]
  case lss => exact ⟨_, rfl, h⟩
  all_goals exact som_ex h
theorem vcBin_sound {P : Program} {op : BinOp} {ty : TypeId} {x y : Operand} {a b : Int} {K : V → Prop} (h : vcBin P op ty x y a b K) :
    ∃ v, (match fast op a b with | some v => some v | none => slow P op ty x y (.int .i64 a) (.int .i64 b)) = some v ∧ K v := by
  have hb : ∀ b : Int, b ≠ 0 → ieq b 0 = false := by intro b hb; rw [ieq_eq]; simpa using hb
  cases op <;> simp only [vcBin] at h <;> simp only [fast]
  case add => exact ⟨_, by rw [show Int.add a b = a + b from rfl, forceI_eq]; simp only [inR_of h.1], h.2⟩
  case sub => exact ⟨_, by rw [show Int.sub a b = a - b from rfl, forceI_eq]; simp only [inR_of h.1], h.2⟩
  case mul => exact ⟨_, by rw [show Int.mul a b = a * b from rfl, forceI_eq]; simp only [inR_of h.1], h.2⟩
  case lss => exact ⟨_, by rw [ilt_eq], h⟩
  case gtr => exact ⟨_, by rw [ilt_eq], h⟩
  case leq => refine ⟨_, rfl, ?_⟩; rw [ilt_eq]; have : (!decide (b < a)) = decide (a ≤ b) := by rw [← decide_not]; exact decide_eq_decide.2 (by omega)
              rw [this]; exact h
  case geq => refine ⟨_, rfl, ?_⟩; rw [ilt_eq]; have : (!decide (a < b)) = decide (b ≤ a) := by rw [← decide_not]; exact decide_eq_decide.2 (by omega)
              rw [this]; exact h
  case eql => refine ⟨_, rfl, ?_⟩; rw [ieq_eq]; exact h
  case neq => refine ⟨_, rfl, ?_⟩; rw [ieq_eq]; have : (!(a == b)) = decide (a ≠ b) := by simp; rfl
              rw [this]; exact h
  case quo => refine ⟨_, ?_, h.2.2⟩; rw [hb b h.1, if_neg (by decide), forceI_eq]; simp only [inR_of h.2.1]
  case rem => refine ⟨_, ?_, h.2.2⟩; rw [hb b h.1, if_neg (by decide), forceI_eq]; simp only [inR_of h.2.1]
  all_goals exact som_ex h
def vcA (P : Program) (a : A) (t : Tr V) (h : H) (K : V → H → Prop) : Prop := match a with
  | .q f => som (f t) fun v => K v h
  | .r f => som (f h t) fun v => K v h
  | .m f => som (f t) fun p => newP h p.1 fun n h' => K (p.2 n) h'
  | .w f => som (f h t) fun p => K p.1 p.2
  | .c g as => (match g t, as t with
    | some (.fn f first caps), some as => ∃ v h', CallOk P f (first ++ as ++ caps) h v h' ∧ K v h'
    | _, _ => False)
  | .bad => False
def Acts (P : Program) (a : A) (t : Tr V) (h : H) (v : V) (h' : H) : Prop := ∃ k, MemoOk P k ∧ ∀ nt marks d, act (selfK k) a d ⟨t, nt, marks, h⟩ = put t nt marks h' d v
theorem vcA_sound {P : Program} {a : A} {t : Tr V} {h : H} {K : V → H → Prop} (hv : vcA P a t h K) : ∃ v h', Acts P a t h v h' ∧ K v h' := by
  cases a with
  | q f => obtain ⟨v, hf, hK⟩ := som_ex hv; exact ⟨v, h, ⟨_, .nil P, fun nt marks d => by simp only [act, hf]⟩, hK⟩
  | r f => obtain ⟨v, hf, hK⟩ := som_ex hv; exact ⟨v, h, ⟨_, .nil P, fun nt marks d => by simp only [act, hf]⟩, hK⟩
  | m f => obtain ⟨⟨b, g⟩, hf, hK⟩ := som_ex hv; rw [newP_eq] at hK; exact ⟨_, _, ⟨_, .nil P, fun nt marks d => by simp only [act, hf, forceH_eq]⟩, hK⟩
  | w f => obtain ⟨⟨v, h'⟩, hf, hK⟩ := som_ex hv; exact ⟨v, h', ⟨_, .nil P, fun nt marks d => by simp only [act, hf, forceH_eq]⟩, hK⟩
  | c g as =>
    simp only [vcA] at hv
    split at hv
    · rename_i f first caps as' hg has
      obtain ⟨v, h', hc, hK⟩ := hv
      refine ⟨v, h', ⟨_, memo1_ok hc, fun nt marks d => ?_⟩, hK⟩
      simp only [act, hg, has, selfK, memo1_self]
    · exact hv.elim
  | bad => exact hv.elim
abbrev chkP (b : Bool) (K : Prop) : Prop := match b with
  | true => K
  | false => False
theorem chkP_iff {b : Bool} {K : Prop} (h : chkP b K) : b = true ∧ K := by
  cases b
  · exact h.elim
  · exact ⟨rfl, h⟩
abbrev cellsP (h : H) (b : Nat) (K : Tr V → Bool → Option (Nat × Nat) → Prop) : Prop := som (h.get b) fun blk => (match blk with
  | .cells c w g => K c w g
  | _ => False)
theorem cellsP_ex {h : H} {b : Nat} {K : Tr V → Bool → Option (Nat × Nat) → Prop} (hv : cellsP h b K) : ∃ c w g, h.get b = some (.cells c w g) ∧ K c w g := by
  obtain ⟨blk, h1, h2⟩ := som_ex hv
  cases blk with
  | cells c w g => exact ⟨c, w, g, h1, h2⟩
  | _ => exact h2.elim
abbrev mapP (h : H) (b : Nat) (K : List (Value × V × Nat) → Nat → Prop) : Prop := som (h.get b) fun blk => (match blk with
  | .map es clock => K es clock
  | _ => False)
theorem mapP_ex {h : H} {b : Nat} {K : List (Value × V × Nat) → Nat → Prop} (hv : mapP h b K) : ∃ es clock, h.get b = some (.map es clock) ∧ K es clock := by
  obtain ⟨blk, h1, h2⟩ := som_ex hv
  cases blk with
  | map es clock => exact ⟨es, clock, h1, h2⟩
  | _ => exact h2.elim
abbrev idxP (n : Int) (K : Nat → Prop) : Prop := match n with
  | .ofNat k => K k
  | .negSucc _ => False
theorem idxP_ex {n : Int} {K : Nat → Prop} (h : idxP n K) : ∃ k, n = .ofNat k ∧ K k := by
  cases n with
  | ofNat k => exact ⟨k, rfl, h⟩
  | negSucc k => exact h.elim
theorem idxP_mk {n : Int} {K : Nat → Prop} {k : Nat} (h : n = (k : Int)) (hK : K k) : idxP n K := by subst h; exact hK
abbrev idxX (x : Option V) (K : Nat → Prop) : Prop := match x with
  | some (.int _ n) => idxP n K
  | _ => False
theorem idxX_ex {x : Option V} {K : Nat → Prop} (h : idxX x K) : ∃ (kd : IntKind) (k : Nat), x = some (.int kd (.ofNat k)) ∧ K k := by
  unfold idxX at h
  split at h
  · rename_i kd n
    obtain ⟨k, rfl, hk⟩ := idxP_ex h
    exact ⟨kd, k, rfl, hk⟩
  · exact h.elim
abbrev lowP (lo : Option X) (t : Tr V) (K : Nat → Prop) : Prop := match lo with
  | none => K 0
  | some x => idxX (x t) K
inductive AppX (sz : Nat) (h : H) (n : Nat) (r : List V) (s : V) (K : V → H → Prop) : Prop
  | all (hk : som (appendTo sz h n r s) fun q => K q.1 q.2)
def vcB (P : Program) (b : Builtin) (as : List Operand) (ts : List TypeId) (t : Tr V) (h : H) (K : V → H → Prop) : Prop := match b, as, ts with
  | .delete, [x, k], [ty, _] => (match P.underlying ty with
    | some (.map kt _) => (match opX x t, opX k t with
      | some (.map b), some k => mapP h b fun es clock => som (plain k) fun k' => som (findAt P es.isEmpty kt k' es) fun r => (match r with
        | some j => K (.tup []) (h.put b (.map (es.eraseIdx j) clock))
        | none => K (.tup []) (h.put b (.map es clock)))
      | _, _ => False)
    | _ => False)
  | .clear, [x], [ty] => (match P.underlying ty with
    | some (.slice el) => (match zero? P el, sizeOf? P el with
      | some z, some sz => chkP (Nat.beq z.cells.length sz && z.cells.all one) (match opX x t with
        | some .nils => K (.tup []) h
        | some (.sl b o n _ _) => cellsP h b fun c w g => chkP w (som (putN (rep n z.cells) c o) fun c' => K (.tup []) (h.put b (.cells c' true g)))
        | _ => False)
      | _, _ => False)
    | some (.map _ _) => (match opX x t with
      | some .nilm => K (.tup []) h
      | some (.map b) => mapP h b fun _ clock => K (.tup []) (h.put b (.map [] clock))
      | _ => False)
    | _ => False)
  | .len, [x], [ty] => (match P.underlying ty, opX x t with
    | some .string, some (.str ⟨⟨s⟩⟩) => K (.int .i64 s.length) h
    | _, _ => vcA P (compB P .len [x] [ty]) t h K)
  | .append, [s, x], [ty, tu] => (match P.underlying ty, P.underlying tu with
    | some (.slice el), some (.slice _) => (match P.info? el, zero? P el with
      | some i, some z => chkP (Nat.ble i.bytes (2 ^ 20) && Nat.beq z.cells.length i.size) (match opX s t, opX x t with
        | some s, some x => som (added i.size h x) fun p => AppX i.size h p.1 p.2 s K
        | _, _ => False)
      | _, _ => False)
    | _, _ => False)
  | .copy, [d, s], [ty, tu] => (match P.underlying ty with
    | some (.slice el) => (match sizeOf? P el, opX d t, opX s t with
      | some sz, some (.sl b o dn _ _), some (.sl b' o' sn _ _) => cellsP h b fun c w g => cellsP h b' fun c' _ _ => chkP w (som (getN c' (min sn dn * sz) o') fun r => som (putN r c o) fun c2 => r.all one = true ∧ K (.int .i64 (min sn dn : Nat)) (h.put b (.cells c2 true g)))
      | _, _, _ => vcA P (compB P .copy [d, s] [ty, tu]) t h K)
    | _ => vcA P (compB P .copy [d, s] [ty, tu]) t h K)
  | b, as, ts => vcA P (compB P b as ts) t h K
def vcOp (P : Program) (o : Op) (t : Tr V) (h : H) (K : V → H → Prop) : Prop := match o with
  | .binOp op ty x y _ => (match opX x t, opX y t with
    | some (.int .i64 a), some (.int .i64 b) => vcBin P op ty x y a b fun v => K v h
    | some (.str ⟨⟨a⟩⟩), some (.str ⟨⟨b⟩⟩) => vcBinS P op ty x y a b fun v => K v h
    | some (.int .u8 a), some (.int .u8 b) => vcBin8 P op ty x y a b fun v => K v h
    | some a, some b => som (slow P op ty x y a b) fun v => K v h
    | _, _ => False)
  | .load ty a => (match isAgg? P ty, sizeOf? P ty, opX a t with
    | some true, some n, some (.ptr b o) => cellsP h b fun c _ _ => som (getN c n o) fun l => K (.agg l) h
    | some false, some _, some (.ptr b o) => cellsP h b fun c _ _ => som (c.get o) fun v => K v h
    | some true, some n, some (.rptr cs) => som (pre n cs) fun l => K (.agg l) h
    | some false, some _, some (.rptr cs) => (match cs with | v :: _ => K v h | [] => False)
    | _, _, _ => False)
  | .store ty a x => (match sizeOf? P ty, opX a t, opX x t with
    | some n, some (.ptr b o), some v => cellsP h b fun c w g => chkP (w && (Nat.beq v.cells.length n && v.cells.all one)) (som (putN v.cells c o) fun c' => K (.tup []) (h.put b (.cells c' true g)))
    | _, _, _ => False)
  | .lookup ty x i ok => (match P.underlying ty with
    | some (.map kt et) => (match zero? P et, opX x t, opX i t with
      | some z, some (.map b), some k => mapP h b fun es _ => som (plain k) fun k' => som (findAt P es.isEmpty kt k' es) fun r => (match r with
        | some j => som (es[j]?) fun en => (match ok with | true => K (.tup [en.2.1, .bool true]) h | false => K en.2.1 h)
        | none => (match ok with | true => K (.tup [z, .bool false]) h | false => K z h))
      | _, _, _ => False)
    | _ => False)
  | .mapUpdate ty x k v => (match P.underlying ty with
    | some (.map kt _) => (match opX x t, opX k t, opX v t with
      | some (.map b), some k, some v => mapP h b fun es clock => som (plain k) fun k' => som (findAt P false kt k' es) fun r => (match r with
        | some j => som (es[j]?) fun en => Instr.sameBits 10000 en.1 k' = true ∧ K (.tup []) (h.put b (.map (es.set j (k', v, en.2.2)) clock))
        | none => K (.tup []) (h.put b (.map (es ++ [(k', v, clock)]) (clock + 1))))
      | _, _, _ => False)
    | _ => False)
  | .mapEntry ty x k => (match P.underlying ty with
    | some (.map kt et) => (match zero? P et, opX x t, opX k t with
      | some z, some (.map b), some k => mapP h b fun es clock => som (plain k) fun k' => som (findAt P false kt k' es) fun r => (match r with
        | some j => som (es[j]?) fun en => Instr.sameBits 10000 en.1 k' = true ∧ K (.tup [en.2.1, .int .i64 (Int.ofNat en.2.2)]) (h.put b (.map (es.set j (k', en.2.1, en.2.2)) clock))
        | none => K (.tup [z, .int .i64 (Int.ofNat clock)]) (h.put b (.map (es ++ [(k', z, clock)]) (clock + 1))))
      | _, _, _ => False)
    | _ => False)
  | .entryStore _ x s v => (match opX x t, opX s t, opX v t with
    | some (.map b), some (.int _ n), some v => mapP h b fun es clock => som (stampAt n es) fun i => som (es[i]?) fun en => K (.tup []) (h.put b (.map (es.set i (en.1, v, en.2.2)) clock))
    | _, _, _ => False)
  | .indexAddr ty x i => (match P.underlying ty with
    | some (.slice el) => (match sizeOf? P el, opX i t, opX x t with
      | some sz, some (.int _ n), some (.sl b o len _ _) => 0 ≤ n ∧ n < (len : Int) ∧ K (.ptr b (o + n.toNat * sz)) h
      | some sz, some (.int _ n), some (.rsl _ sz' len g) => chkP (Nat.beq sz' sz) (idxP n fun k => k < len ∧ K (.rptr (g k)) h)
      | _, _, _ => False)
    | some (.array len el) => (match sizeOf? P el, opX i t, opX x t with
      | some sz, some (.int _ n), some (.ptr b o) => 0 ≤ n ∧ n < (len : Int) ∧ K (.ptr b (o + n.toNat * sz)) h
      | some sz, some (.int _ n), some (.rptr cs) => idxP n fun k => k < len ∧ K (.rptr (cs.drop (k * sz))) h
      | _, _, _ => False)
    | _ => False)
  | .slice ty x lo hi mx => (match P.underlying ty, opX x t with
    | some (.slice el), some (.rsl ex sz' n g) => (match sizeOf? P el with
      | some sz => chkP (Nat.beq sz' sz) (lowP (lo.map opX) t fun l => (match hi.map opX, mx.map opX with
        | none, none => l ≤ n ∧ K (.rsl ex sz (n - l) fun i => g (l + i)) h
        | some hi, none => idxX (hi t) fun q => (l ≤ q ∧ q ≤ n) ∧ K (.rsl false sz (q - l) fun i => g (l + i)) h
        | some hi, some mx => idxX (hi t) fun q => idxX (mx t) fun m => (l ≤ q ∧ q = m ∧ m ≤ n) ∧ K (.rsl true sz (q - l) fun i => g (l + i)) h
        | none, some _ => False))
      | none => False)
    | some .string, some (.str ⟨⟨s⟩⟩) => (match mx with
      | none => lowP (lo.map opX) t fun l => (match hi.map opX with
        | none => l ≤ s.length ∧ K (.str ⟨⟨s.drop l⟩⟩) h
        | some hi => idxX (hi t) fun q => (l ≤ q ∧ q ≤ s.length) ∧ K (.str ⟨⟨(s.drop l).take (q - l)⟩⟩) h)
      | some _ => False)
    | _, _ => vcA P (compOp P (.slice ty x lo hi mx)) t h K)
  | .index ty x i => (match P.underlying ty with
    | some (.array len el) => (match sizeOf? P el, opX i t, opX x t with
      | some sz, some (.int _ n), some (.agg cs) => 0 ≤ n ∧ n < (len : Int) ∧ som (part? P el cs (n.toNat * sz)) fun v => K v h
      | _, _, _ => False)
    | some .string => (match opX i t, opX x t with
      | some (.int _ n), some (.str ⟨⟨s⟩⟩) => idxP n fun k => k < s.length ∧ K (.int .u8 (byteAt s k)) h
      | _, _ => False)
    | _ => False)
  | .unOp op _ x => (match op, opX x t with
    | .neg, some (.int .i64 a) => InR (-a) ∧ K (.int .i64 (-a)) h
    | .not, some (.bool a) => K (.bool (!a)) h
    | op, _ => vcA P (qUn op P (opX x)) t h K)
  | .call c => (match c.callee with
    | .builtin b => vcB P b c.args.toList c.argTypes.toList t h K
    | _ => vcA P (compOp P (.call c)) t h K)
  | .entry it => (match opX it t with
    | some (.ptr r 0) => som (h.get r) fun blk => (match blk with
      | .iter b _ seen last => mapP h b fun es clock => som seen.getLast? fun stamp => clock = last ∧ som (es.find? fun e => Nat.beq e.2.2 stamp) fun en => som (ofVal en.1) fun kv => K (.tup [kv, en.2.1]) h
      | _ => False)
    | _ => False)
  | .makeSlice ty l c => (match P.underlying ty with
    | some (.slice el) => (match P.info? el, zero? P el with
      | some i, some z => chkP (Nat.ble i.bytes (2 ^ 20) && (Nat.beq z.cells.length i.size && z.cells.all one)) (match opX l t, opX c t with
        | some (.int _ (.ofNat l)), some (.int _ (.ofNat c)) => l ≤ c ∧ c ≤ 1048576 ∧ newP h (.cells (ofL (rep c z.cells) 0) true none) fun N h' => K (.sl N 0 l c true) h'
        | _, _ => False)
      | _, _ => False)
    | _ => False)
  | o => vcA P (compOp P o) t h K
theorem toNat_cases {n : Int} {len : Nat} (h0 : 0 ≤ n) (h1 : n < (len : Int)) : ∃ k, n = Int.ofNat k ∧ Nat.blt k len = true ∧ n.toNat = k := by
  refine ⟨n.toNat, (Int.toNat_of_nonneg h0).symm, ?_, rfl⟩
  rw [Nat.blt_eq]; omega
theorem vcOp_sound {P : Program} {o : Op} {t : Tr V} {h : H} {K : V → H → Prop} (hv : vcOp P o t h K) : ∃ v h', Acts P (compOp P o) t h v h' ∧ K v h' := by
  have hq : ∀ {f : X} {v : V}, f t = some v → Acts P (.q f) t h v h := fun hf => ⟨_, .nil P, fun nt marks d => by simp only [act, hf]⟩
  have hrr : ∀ {f : H → X} {v : V}, f h t = some v → Acts P (.r f) t h v h := fun hf => ⟨_, .nil P, fun nt marks d => by simp only [act, hf]⟩
  have hww : ∀ {f : H → Tr V → Option (V × H)} {v : V} {h' : H}, f h t = some (v, h') → Acts P (.w f) t h v h' := fun hf => ⟨_, .nil P, fun nt marks d => by simp only [act, hf, forceH_eq]⟩
  cases o
  case binOp op ty x y fl =>
    simp only [vcOp] at hv
    split at hv
    · rename_i a b hx hy
      obtain ⟨v, h1, h2⟩ := vcBin_sound hv
      refine ⟨v, h, hq ?_, h2⟩
      rw [hx, hy]; exact h1
    · rename_i a b hx hy
      obtain ⟨v, h1, h2⟩ := vcBinS_sound hv
      refine ⟨v, h, hq ?_, h2⟩
      rw [hx, hy]; exact h1
    · rename_i a b hx hy
      obtain ⟨v, h1, h2⟩ := vcBin8_sound hv
      refine ⟨v, h, hq ?_, h2⟩
      rw [hx, hy]; exact h1
    · rename_i a b hno hnoS _ hx hy
      obtain ⟨v, h1, h2⟩ := som_ex hv
      refine ⟨v, h, hq ?_, h2⟩
      rw [hx, hy]
      split
      · rename_i a' b' e1 e2
        exact (hno _ _ (by first | exact e1 | exact Option.some.inj e1) (by first | exact e2 | exact Option.some.inj e2)).elim
      · rename_i a' b' e1 e2
        obtain ⟨⟨a'⟩⟩ := a'
        obtain ⟨⟨b'⟩⟩ := b'
        exact (hnoS _ _ (by first | exact e1 | exact Option.some.inj e1) (by first | exact e2 | exact Option.some.inj e2)).elim
      · rename_i e1 e2; cases e1; cases e2; exact h1
      · rename_i e1; exact (e1 _ _ rfl rfl).elim
    · exact hv.elim
  case load ty a =>
    simp only [vcOp] at hv
    split at hv
    · rename_i n b o h1 h2 h3
      obtain ⟨c, _, _, hg, hv⟩ := cellsP_ex hv
      obtain ⟨l, hl, hK⟩ := som_ex hv
      refine ⟨.agg l, h, ?_, hK⟩
      simp only [compOp, rLoad, h1, h2]
      exact hrr (by simp only [h3, hg, hl])
    · rename_i n b o h1 h2 h3
      obtain ⟨c, _, _, hg, hv⟩ := cellsP_ex hv
      obtain ⟨l, hl, hK⟩ := som_ex hv
      refine ⟨l, h, ?_, hK⟩
      simp only [compOp, rLoad, h1, h2]
      exact hrr (by simp only [h3, hg, hl])
    · rename_i n cs h1 h2 h3
      obtain ⟨l, hl, hK⟩ := som_ex hv
      refine ⟨.agg l, h, ?_, hK⟩
      simp only [compOp, rLoad, h1, h2]
      exact hrr (by simp only [h3, hl])
    · rename_i n cs h1 h2 h3
      cases cs with
      | nil => exact hv.elim
      | cons v l =>
        refine ⟨v, h, ?_, hv⟩
        simp only [compOp, rLoad, h1, h2]
        exact hrr (by simp only [h3])
    · exact hv.elim
  case store ty a x =>
    simp only [vcOp] at hv
    split at hv
    · rename_i n b o v h1 h2 h3
      obtain ⟨c, w, g, hg, hv⟩ := cellsP_ex hv
      obtain ⟨hb, hv⟩ := chkP_iff hv
      obtain ⟨c', hc', hK⟩ := som_ex hv
      simp only [Bool.and_eq_true] at hb
      obtain ⟨rfl, hb1, hb2⟩ := hb
      refine ⟨_, _, ?_, hK⟩
      simp only [compOp, wStore, h1]
      exact hww (by simp only [h2, h3, hg]; rw [if_pos ⟨Nat.eq_of_beq_eq_true hb1, hb2⟩]; simp only [hc'])
    · exact hv.elim
  case lookup ty x i ok =>
    simp only [vcOp] at hv
    split at hv
    · rename_i kt et hu
      split at hv
      · rename_i z b k h1 h2 h3
        obtain ⟨es, clock, hg, hv⟩ := mapP_ex hv
        obtain ⟨k', hk', hv⟩ := som_ex hv
        obtain ⟨r, hr, hv⟩ := som_ex hv
        simp only [compOp, rLookup, hu, h1]
        cases r with
        | some j =>
          obtain ⟨en, hen, hv⟩ := som_ex hv
          cases ok with
          | true => exact ⟨_, h, hrr (by simp only [h2, h3, hg, hk', hr, hen, if_true]), hv⟩
          | false => exact ⟨_, h, hrr (by simp only [h2, h3, hg, hk', hr, hen, Bool.false_eq_true, if_false]), hv⟩
        | none =>
          cases ok with
          | true => exact ⟨_, h, hrr (by simp only [h2, h3, hg, hk', hr, if_true]), hv⟩
          | false => exact ⟨_, h, hrr (by simp only [h2, h3, hg, hk', hr, Bool.false_eq_true, if_false]), hv⟩
      · exact hv.elim
    · exact hv.elim
  case mapUpdate ty x k v =>
    simp only [vcOp] at hv
    split at hv
    · rename_i kt et hu
      split at hv
      · rename_i b k v h1 h2 h3
        obtain ⟨es, clock, hg, hv⟩ := mapP_ex hv
        obtain ⟨k', hk', hv⟩ := som_ex hv
        obtain ⟨r, hr, hv⟩ := som_ex hv
        simp only [compOp, wMapUpdate, hu]
        cases r with
        | some j =>
          obtain ⟨en, hen, hb, hv⟩ := som_ex hv
          exact ⟨_, _, hww (by simp only [h1, h2, h3, hg, hk', hr, hen]; rw [if_pos hb]), hv⟩
        | none => exact ⟨_, _, hww (by simp only [h1, h2, h3, hg, hk', hr]), hv⟩
      · exact hv.elim
    · exact hv.elim
  case mapEntry ty x k =>
    simp only [vcOp] at hv
    split at hv
    · rename_i kt et hu
      split at hv
      · rename_i z b k h0 h1 h2
        obtain ⟨es, clock, hg, hv⟩ := mapP_ex hv
        obtain ⟨k', hk', hv⟩ := som_ex hv
        obtain ⟨r, hr, hv⟩ := som_ex hv
        simp only [compOp, wMapEntry, hu, h0]
        cases r with
        | some j =>
          obtain ⟨en, hen, hb, hv⟩ := som_ex hv
          exact ⟨_, _, hww (by simp only [h1, h2, hg, hk', hr, hen]; rw [if_pos hb]), hv⟩
        | none => exact ⟨_, _, hww (by simp only [h1, h2, hg, hk', hr]), hv⟩
      · exact hv.elim
    · exact hv.elim
  case entryStore ty x s v =>
    simp only [vcOp] at hv
    split at hv
    · rename_i b n v h1 h2 h3
      obtain ⟨es, clock, hg, hv⟩ := mapP_ex hv
      obtain ⟨i, hi, hv⟩ := som_ex hv
      obtain ⟨en, hen, hv⟩ := som_ex hv
      simp only [compOp, wEntryStore]
      exact ⟨_, _, hww (by simp only [h1, h2, h3, hg, hi, hen]), hv⟩
    · exact hv.elim
  case index ty x i =>
    simp only [vcOp] at hv
    split at hv
    · rename_i len el hu
      split at hv
      · rename_i sz _ n cs h1 h2 h3
        obtain ⟨g0, g1, hK⟩ := hv
        obtain ⟨v, hp, hK2⟩ := som_ex hK
        obtain ⟨k, rfl, g2, g3⟩ := toNat_cases g0 g1
        refine ⟨_, h, ?_, hK2⟩
        simp only [compOp, qIndex, hu, h1]
        refine hq ?_
        rw [g3] at hp
        simp only [h2, h3, g2, if_true, hp]
      · exact hv.elim
    · rename_i hu
      split at hv
      · rename_i _ n s h2 h3
        obtain ⟨k, rfl, hlt, hK⟩ := idxP_ex hv
        refine ⟨_, h, ?_, hK⟩
        simp only [compOp, qIndex, hu]
        have hb : (⟨⟨s⟩⟩ : ByteArray)[k]? = some s[k] := by rw [ba_get, List.getElem?_eq_getElem hlt]
        have he : byteAt s k = (s[k].toNat : Nat) := by unfold byteAt; rw [List.getD_eq_getElem?_getD, List.getElem?_eq_getElem hlt]; rfl
        rw [he]
        exact hq (by simp only [h2, h3, hb])
      · exact hv.elim
    · exact hv.elim
  case makeSlice ty l c =>
    simp only [vcOp] at hv
    split at hv
    · rename_i el hu
      split at hv
      · rename_i i z h1 h2
        obtain ⟨hb, hv⟩ := chkP_iff hv
        simp only [Bool.and_eq_true] at hb
        obtain ⟨b1, b2, b3⟩ := hb
        split at hv
        · rename_i _ l' _ c' hl hc
          obtain ⟨g1, g2, hv⟩ := hv
          have hm : compOp P (.makeSlice ty l c) = mSlice P ty (opX l) (opX c) := rfl
          rw [hm]
          refine vcA_sound ?_
          unfold mSlice
          rw [hu]
          dsimp only
          rw [h1, h2]
          dsimp only
          rw [if_pos ⟨Nat.le_of_ble_eq_true b1, Nat.eq_of_beq_eq_true b2, b3⟩]
          refine som_mk (a := (.cells (ofL (rep c' z.cells) 0) true none, fun b => .sl b 0 l' c' true)) ?_ hv
          dsimp only
          rw [hl, hc]
          exact if_pos ⟨g1, g2⟩
        · exact hv.elim
      · exact hv.elim
    · exact hv.elim
  case entry it =>
    simp only [vcOp] at hv
    split at hv
    · rename_i r hx
      obtain ⟨blk, hg, hv⟩ := som_ex hv
      cases blk with
      | iter b since seen last =>
        obtain ⟨es, clock, hb, hv⟩ := mapP_ex hv
        obtain ⟨stamp, hs, hcl, hv⟩ := som_ex hv
        obtain ⟨en, hen, hv⟩ := som_ex hv
        obtain ⟨kv, hkv, hv2⟩ := som_ex hv
        subst hcl
        refine ⟨_, h, ?_, hv2⟩
        simp only [compOp, rEntry]
        exact hrr (by simp only [hx, hg, hs, hb, Nat.beq_refl, hen, hkv])
      | _ => exact hv.elim
    · exact hv.elim
  case call c =>
    obtain ⟨callee, args, ts⟩ := c
    cases callee with
    | value g => exact vcA_sound hv
    | invoke a b => exact vcA_sound hv
    | builtin b =>
      have hv' : vcB P b args.toList ts.toList t h K := hv
      show ∃ v h', Acts P (compB P b args.toList ts.toList) t h v h' ∧ K v h'
      unfold vcB at hv'
      split at hv'
      · rename_i x k ty _ e1 e2
        simp only [e1, e2]
        split at hv'
        · rename_i kt et hu
          split at hv'
          · rename_i bb kv h1 h2
            obtain ⟨es, clock, hg, hv'⟩ := mapP_ex hv'
            obtain ⟨k', hk', hv'⟩ := som_ex hv'
            obtain ⟨r, hr, hv'⟩ := som_ex hv'
            simp only [compB, wDelete, hu]
            cases r with
            | some j => exact ⟨_, _, hww (by simp only [h1, h2, hg, hk', hr]), hv'⟩
            | none => exact ⟨_, _, hww (by simp only [h1, h2, hg, hk', hr]), hv'⟩
          · exact hv'.elim
        · exact hv'.elim
      · rename_i x ty e1 e2
        simp only [e1, e2]
        split at hv'
        · rename_i el hu
          split at hv'
          · rename_i z sz hz hs
            obtain ⟨hc, hv'⟩ := chkP_iff hv'
            simp only [Bool.and_eq_true] at hc
            have hc' : z.cells.length = sz ∧ z.cells.all one = true := ⟨Nat.eq_of_beq_eq_true hc.1, hc.2⟩
            simp only [compB, wClear, hu, hz, hs, if_pos hc']
            split at hv'
            · rename_i hx
              exact ⟨_, _, hww (by simp only [hx]), hv'⟩
            · rename_i bb o n _ _ hx
              obtain ⟨c, w, g, hg, hv'⟩ := cellsP_ex hv'
              obtain ⟨rfl, hv'⟩ := chkP_iff hv'
              obtain ⟨c', hc2, hv'⟩ := som_ex hv'
              exact ⟨_, _, hww (by simp only [hx, hg, hc2]), hv'⟩
            · exact hv'.elim
          · exact hv'.elim
        · rename_i kt et hu
          simp only [compB, wClear, hu]
          split at hv'
          · rename_i hx
            exact ⟨_, _, hww (by simp only [hx]), hv'⟩
          · rename_i bb hx
            obtain ⟨es, clock, hg, hv'⟩ := mapP_ex hv'
            exact ⟨_, _, hww (by simp only [hx, hg]), hv'⟩
          · exact hv'.elim
        · exact hv'.elim
      · rename_i x ty e1 e2
        simp only [e1, e2]
        split at hv'
        · rename_i s hu hx
          refine ⟨_, h, ?_, hv'⟩
          simp only [compB, rLen, hu]
          exact hrr (by simp only [hx]; rfl)
        · exact vcA_sound hv'
      · rename_i s x ty tu e1 e2
        simp only [e1, e2]
        split at hv'
        · rename_i el el2 hu hu2
          split at hv'
          · rename_i i z hi hz
            obtain ⟨hc, hv'⟩ := chkP_iff hv'
            simp only [Bool.and_eq_true] at hc
            have hc' : i.bytes ≤ 2 ^ 20 ∧ z.cells.length = i.size := ⟨Nat.le_of_ble_eq_true hc.1, Nat.eq_of_beq_eq_true hc.2⟩
            simp only [compB, wAppend, hu, hu2, hi, hz, if_pos hc']
            split at hv'
            · rename_i sv xv h1 h2
              obtain ⟨⟨n, r⟩, hp, hv'⟩ := som_ex hv'
              obtain ⟨⟨v, h'⟩, hq, hv'⟩ := som_ex (match hv' with | .all hk => hk)
              exact ⟨v, h', hww (by simp only [h1, h2, hp]; exact hq), hv'⟩
            · exact hv'.elim
          · exact hv'.elim
        · exact hv'.elim
      · rename_i d s ty tu e1 e2
        simp only [e1, e2]
        split at hv'
        · rename_i el hu
          split at hv'
          · rename_i sz b o dn _ _ b' o' sn _ _ hz h1 h2
            obtain ⟨c, w, g, hg, hv'⟩ := cellsP_ex hv'
            obtain ⟨c', w', g', hg', hv'⟩ := cellsP_ex hv'
            obtain ⟨rfl, hv'⟩ := chkP_iff hv'
            obtain ⟨r, hr, hv'⟩ := som_ex hv'
            obtain ⟨c2, hc2, hone, hv'⟩ := som_ex hv'
            simp only [compB, wCopy, hu, hz]
            exact ⟨_, _, hww (by simp only [h1, h2, hg, hg', hr, hone, if_true, hc2]), hv'⟩
          · exact vcA_sound hv'
        · exact vcA_sound hv'
      · exact vcA_sound hv'
  case indexAddr ty x i =>
    simp only [vcOp] at hv
    split at hv
    · rename_i el hu
      split at hv
      · rename_i sz _ n b o len _ _ h1 h2 h3
        obtain ⟨g0, g1, hK⟩ := hv
        obtain ⟨k, rfl, g2, g3⟩ := toNat_cases g0 g1
        refine ⟨_, h, ?_, hK⟩
        simp only [compOp, qIndexAddr, hu, h1]
        refine hq ?_
        simp only [h2, h3, g2, g3, if_true]
      · rename_i sz _ n _ sz' len g h1 h2 h3
        obtain ⟨hs, hv⟩ := chkP_iff hv
        obtain ⟨k, rfl, g1, hK⟩ := idxP_ex hv
        refine ⟨_, h, ?_, hK⟩
        simp only [compOp, qIndexAddr, hu, h1]
        refine hq ?_
        have g2 : Nat.blt k len = true := by rw [Nat.blt_eq]; exact g1
        simp only [h2, h3, g2, hs, Bool.and_self, if_true]
      · exact hv.elim
    · rename_i len el hu
      split at hv
      · rename_i sz _ n b o h1 h2 h3
        obtain ⟨g0, g1, hK⟩ := hv
        obtain ⟨k, rfl, g2, g3⟩ := toNat_cases g0 g1
        refine ⟨_, h, ?_, hK⟩
        simp only [compOp, qIndexAddr, hu, h1]
        refine hq ?_
        simp only [h2, h3, g2, g3, if_true]
      · rename_i sz _ n cs h1 h2 h3
        obtain ⟨k, rfl, g1, hK⟩ := idxP_ex hv
        refine ⟨_, h, ?_, hK⟩
        simp only [compOp, qIndexAddr, hu, h1]
        refine hq ?_
        have g2 : Nat.blt k len = true := by rw [Nat.blt_eq]; exact g1
        simp only [h2, h3, g2, if_true]
      · exact hv.elim
    · exact hv.elim
  case slice ty x lo hi mx =>
    simp only [vcOp] at hv
    split at hv
    · rename_i el ex sz' n g hu hx
      split at hv
      · rename_i sz hs
        obtain ⟨hb, hv⟩ := chkP_iff hv
        have hbq := Nat.eq_of_beq_eq_true hb
        subst hbq
        have low : ∃ l : Nat, (∀ q, l ≤ q → sLo (lo.map opX) q t = some l) ∧ (match hi.map opX, mx.map opX with
            | none, none => l ≤ n ∧ K (.rsl ex sz' (n - l) fun i => g (l + i)) h
            | some hi, none => idxX (hi t) fun q => (l ≤ q ∧ q ≤ n) ∧ K (.rsl false sz' (q - l) fun i => g (l + i)) h
            | some hi, some mx => idxX (hi t) fun q => idxX (mx t) fun m => (l ≤ q ∧ q = m ∧ m ≤ n) ∧ K (.rsl true sz' (q - l) fun i => g (l + i)) h
            | none, some _ => False) := by
          cases lo with
          | none => exact ⟨0, fun q _ => rfl, hv⟩
          | some y =>
            obtain ⟨kd, l, hy, hv⟩ := idxX_ex (x := opX y t) hv
            exact ⟨l, fun q hq => by simp only [Option.map_some, sLo, bnd, hy]; rw [if_pos (Nat.ble_eq_true_of_le hq)], hv⟩
        obtain ⟨l, hlo, hv⟩ := low
        have fin : ∀ v, sliceAt sz' (lo.map opX) (hi.map opX) (mx.map opX) t (.rsl ex sz' n g) = some v → Acts P (compOp P (.slice ty x lo hi mx)) t h v h := by
          intro v hv
          simp only [compOp, qSlice, hu, hs]
          exact hq (by simp only [hx]; exact hv)
        have fin2 : ∀ (q m : Nat) (e2 : Bool), bounds (lo.map opX) (hi.map opX) (mx.map opX) n n ex t = some (l, q, m, e2) → l ≤ q → q ≤ m →
            sliceAt sz' (lo.map opX) (hi.map opX) (mx.map opX) t (.rsl ex sz' n g) = some (.rsl (flagOf (hi.map opX) (mx.map opX) ex m q) sz' (q - l) fun i => g (l + i)) := by
          intro q m e2 hbd h1 h2
          simp only [sliceAt, Nat.beq_refl, hbd, Nat.ble_eq_true_of_le h1, Nat.ble_eq_true_of_le h2]
        cases hi with
        | none =>
          cases mx with
          | none =>
            exact ⟨_, h, fin _ (fin2 n n ex (by unfold bounds; simp only [Option.map_none, sMax, sHi, hlo n hv.1]) hv.1 (Nat.le_refl _)), hv.2⟩
          | some z => exact hv.elim
        | some y =>
          cases mx with
          | none =>
            obtain ⟨kd, q, hy, ⟨h1, h2⟩, hK⟩ := idxX_ex (x := opX y t) hv
            refine ⟨_, h, fin _ (fin2 q n ex ?_ h1 h2), hK⟩
            unfold bounds
            simp only [Option.map_none, Option.map_some, sMax, sHi, bnd, hy, if_pos (Nat.ble_eq_true_of_le h2)]
            have := hlo q h1
            simp only [this]
          | some z =>
            obtain ⟨kd, q, hy, hv⟩ := idxX_ex (x := opX y t) hv
            obtain ⟨kd2, m, hz, ⟨h1, h2, h3⟩, hK⟩ := idxX_ex (x := opX z t) hv
            subst h2
            have e : flagOf (Option.map opX (some y)) (Option.map opX (some z)) ex q q = true := Nat.beq_refl q
            refine ⟨_, h, fin _ ((fin2 q q true ?_ h1 (Nat.le_refl _)).trans (by rw [e])), hK⟩
            unfold bounds
            simp only [Option.map_some, sMax, sHi, bnd, hy, hz, if_pos (Nat.ble_eq_true_of_le h3)]
            rw [if_pos (Nat.ble_eq_true_of_le (Nat.le_refl q))]
            have := hlo q h1
            simp only [this]
      · exact hv.elim
    · rename_i s hu hx
      split at hv
      · have low : ∃ l : Nat, (∀ q, l ≤ q → sLo (lo.map opX) q t = some l) ∧ (match hi.map opX with
            | none => l ≤ s.length ∧ K (.str ⟨⟨s.drop l⟩⟩) h
            | some hi => idxX (hi t) fun q => (l ≤ q ∧ q ≤ s.length) ∧ K (.str ⟨⟨(s.drop l).take (q - l)⟩⟩) h) := by
          cases lo with
          | none => exact ⟨0, fun q _ => rfl, hv⟩
          | some y =>
            obtain ⟨kd, l, hy, hv⟩ := idxX_ex (x := opX y t) hv
            exact ⟨l, fun q hq => by simp only [Option.map_some, sLo, bnd, hy]; rw [if_pos (Nat.ble_eq_true_of_le hq)], hv⟩
        obtain ⟨l, hlo, hv⟩ := low
        have esz : (⟨⟨s⟩⟩ : ByteArray).size = s.length := rfl
        have fin : ∀ (q m : Nat) (e2 : Bool), bounds (lo.map opX) (hi.map opX) none (⟨⟨s⟩⟩ : ByteArray).size (⟨⟨s⟩⟩ : ByteArray).size true t = some (l, q, m, e2) → Acts P (compOp P (.slice ty x lo hi none)) t h (.str ⟨⟨(s.drop l).take (q - l)⟩⟩) h := by
          intro q m e2 hb
          simp only [compOp, qSlice, hu, Option.map_none]
          refine hq ?_
          simp only [hx, hb]
          unfold cutS
          dsimp only
          rw [forceT_eq]
        cases hi with
        | none =>
          obtain ⟨h1, hK⟩ := hv
          have e : (s.drop l).take (s.length - l) = s.drop l := List.take_of_length_le (by rw [List.length_drop]; omega)
          refine ⟨_, h, ?_, hK⟩
          rw [← e]
          refine fin s.length s.length true ?_
          unfold bounds
          simp only [Option.map_none, sMax, sHi, esz, hlo s.length h1]
        | some y =>
          obtain ⟨kd, q, hy, ⟨h1, h2⟩, hK⟩ := idxX_ex (x := opX y t) hv
          refine ⟨_, h, fin q s.length true ?_, hK⟩
          unfold bounds
          simp only [Option.map_some, sMax, sHi, bnd, hy, esz]
          rw [if_pos (Nat.ble_eq_true_of_le h2)]
          have := hlo q h1
          simp only [this]
      · exact hv.elim
    · exact vcA_sound hv
  case unOp op ty x =>
    simp only [vcOp] at hv
    split at hv
    · rename_i a hx
      refine ⟨_, h, ?_, hv.2⟩
      simp only [compOp, qUn]
      refine hq ?_
      rw [hx]
      show (match pureP P (Op.unary .neg (.int .i64 a)) with | some v => ofVal v | none => none) = some (.int .i64 (-a))
      have : pureP P (Op.unary .neg (.int .i64 a)) = some (.int .i64 (IntKind.i64.wrap (0 - a))) := rfl
      rw [this, show (0 - a : Int) = -a from by omega, wrap_in (inR_of hv.1)]
      rfl
    · rename_i a hx
      refine ⟨_, h, ?_, hv⟩
      simp only [compOp, qUn]
      refine hq ?_
      rw [hx]
      rfl
    · exact vcA_sound hv
  all_goals exact vcA_sound hv
end Go.As
/- What a piece of code asks, as a proposition that is computed; loops; calls. -/
namespace Go.As
def setD (nt : Nat) (d : Option Nat) (v : V) (t : Tr V) (K : Tr V → Prop) : Prop := match d with
  | none => K t
  | some d => (match Nat.blt d nt with
    | true => strictT (t.set d v) K
    | false => False)
def vcOper (P : Program) (ops : Array Oper) (nt : Nat) (o : Oper) (t : Tr V) (h : H) (K : Tr V → H → Prop) : Prop := match o.guard with
  | none => vcOp P o.op t h fun v h' => setD nt o.dst v t fun t' => K t' h'
  | some (j, want) => (match ops[j]? with
    | some oj => (match oj.dst with
      | some d => (match t.get d with
        | some (.bool b) => (match want with
          | true => ifb b (strictT (t.set d (.bool true)) fun t => vcOp P o.op t h fun v h' => setD nt o.dst v t fun t' => K t' h') (strictT (t.set d (.bool false)) fun t => setD nt o.dst (.tup []) t fun t' => K t' h)
          | false => ifb b (strictT (t.set d (.bool true)) fun t => setD nt o.dst (.tup []) t fun t' => K t' h) (strictT (t.set d (.bool false)) fun t => vcOp P o.op t h fun v h' => setD nt o.dst v t fun t' => K t' h'))
        | some _ => setD nt o.dst (.tup []) t fun t' => K t' h
        | none => False)
      | none => False)
    | none => False)
def vcOps (P : Program) (ops : Array Oper) (nt : Nat) : List Oper → Tr V → H → (Tr V → H → Prop) → Prop
  | [], t, h, K => K t h
  | o :: l, t, h, K => vcOper P ops nt o t h fun t' h' => vcOps P ops nt l t' h' K
noncomputable def vc (P : Program) : Code → St → (Ex → St → Prop) → Prop
  | .skip, s, Q => Q .normal s
  | .label _, s, Q => Q .normal s
  | .region id ops draw, s, Q => (match draw with
    | false => (match s with | ⟨t, nt, marks, h⟩ => vcOps P ops nt ops.toList t h fun t' h' => Q .normal ⟨t', nt, marks, h'⟩)
    | true => WpC P (.region id ops true) s Q)
  | .seq a b, s, Q => vc P a s fun ex s1 => (match ex with | .normal => vc P b s1 Q | ex => Q ex s1)
  | .cond x a b, s, Q => (match opX x s.t with
    | some (.bool c) => ifb c (vc P a s Q) (vc P b s Q)
    | _ => False)
  | .block id a, s, Q => vc P a s fun ex s1 => (match ex with
    | .exit id' => (match Nat.beq id' id with | true => Q .normal s1 | false => Q (.exit id') s1)
    | ex => Q ex s1)
  | .loop a, s, Q => WpC P (.loop a) s Q
  | .scope a, s, Q => vc P a s Q
  | .exit id, s, Q => Q (.exit id) s
  | .ret, s, Q => Q .ret s
  | .rangeFunc g ps c1 c2, s, Q => WpC P (.rangeFunc g ps c1 c2) s Q
  | _, _, _ => False
theorem Tr.set_self {α : Type} {x : α} : ∀ {t : Tr α} {n : Nat}, t.get n = some x → t.set n x = t := by
  intro t
  induction t with
  | leaf => intro n h; rw [Tr.get_leaf] at h; cases h
  | node l a r ihl ihr =>
    intro n h
    have h' : @Bool.rec (fun _ => Option α) (@Bool.rec (fun _ => Option α) (r.get (Nat.sub (Nat.div n 2) 1)) (l.get (Nat.div n 2)) (Nat.beq (Nat.mod n 2) 1)) a (Nat.beq n 0) = some x := h
    show @Bool.rec (fun _ => Tr α) (@Bool.rec (fun _ => Tr α) (strictT (r.set (Nat.sub (Nat.div n 2) 1) x) fun r' => .node l a r') (strictT (l.set (Nat.div n 2) x) fun l' => .node l' a r) (Nat.beq (Nat.mod n 2) 1)) (.node l (some x) r) (Nat.beq n 0) = _
    cases h0 : Nat.beq n 0 with
    | true => rw [h0] at h'; dsimp only at h' ⊢; rw [h']
    | false =>
      rw [h0] at h'
      cases h1 : Nat.beq (Nat.mod n 2) 1 with
      | true => rw [h1] at h'; dsimp only at h' ⊢; rw [strictT_eq, ihl h']
      | false => rw [h1] at h'; dsimp only at h' ⊢; rw [strictT_eq, ihr h']
section
variable {P : Program}
theorem setD_put {nt : Nat} {d : Option Nat} {v : V} {t : Tr V} {K : Tr V → Prop} (h : setD nt d v t K) (marks : List Nat) (hh : H) : ∃ t', put t nt marks hh d v = some (v, ⟨t', nt, marks, hh⟩) ∧ K t' := by
  rw [put_eq]
  cases d with
  | none => exact ⟨t, rfl, h⟩
  | some d =>
    dsimp only
    simp only [setD] at h
    split at h
    · rename_i hd
      rw [strictT_eq] at h
      rw [if_pos (by rw [Nat.blt_eq] at hd; exact hd)]
      exact ⟨_, rfl, h⟩
    · exact h.elim
theorem vcOper_sound {ops : Array Oper} {nt : Nat} {o : Oper} {t : Tr V} {h : H} {K : Tr V → H → Prop} (hv : vcOper P ops nt o t h K) (marks : List Nat) :
    ∃ k, MemoOk P k ∧ ∃ v t' h', doOp (selfK k) (compO P ops o) ⟨t, nt, marks, h⟩ = some (v, ⟨t', nt, marks, h'⟩) ∧ K t' h' := by
  have run : ∀ g, wanted t g = some true → (vcOp P o.op t h fun v h' => setD nt o.dst v t fun t' => K t' h') → ∃ k, MemoOk P k ∧ ∃ v t' h', doOp (selfK k) ⟨g, o.dst, compOp P o.op⟩ ⟨t, nt, marks, h⟩ = some (v, ⟨t', nt, marks, h'⟩) ∧ K t' h' := by
    intro g hg hr
    obtain ⟨v, h', ⟨k, hk, hact⟩, hK⟩ := vcOp_sound hr
    obtain ⟨t', hp, hK'⟩ := setD_put hK marks h'
    refine ⟨k, hk, v, t', h', ?_, hK'⟩
    simp only [doOp, hg]
    rw [hact]; exact hp
  have skip : ∀ g a, wanted t g = some false → (setD nt o.dst (.tup []) t fun t' => K t' h) → ∃ k, MemoOk P k ∧ ∃ v t' h', doOp (selfK k) ⟨g, o.dst, a⟩ ⟨t, nt, marks, h⟩ = some (v, ⟨t', nt, marks, h'⟩) ∧ K t' h' := by
    intro g a hg hr
    obtain ⟨t', hp, hK'⟩ := setD_put hr marks h
    refine ⟨_, .nil P, .tup [], t', h, ?_, hK'⟩
    simp only [doOp, hg]
    exact hp
  unfold vcOper at hv
  unfold compO
  split at hv
  · rename_i hg
    simp only [hg]
    exact run none rfl hv
  · rename_i j want hg
    simp only [hg]
    split at hv
    · rename_i oj hj
      simp only [hj]
      split at hv
      · rename_i d hd
        simp only [hd]
        split at hv
        · rename_i b hb
          cases want <;> cases b
          · have hr := ifb_2 hv rfl
            rw [strictT_eq, Tr.set_self hb] at hr
            exact run _ (by simp only [wanted, hb]; rfl) hr
          · have hr := ifb_1 hv rfl
            rw [strictT_eq, Tr.set_self hb] at hr
            exact skip _ _ (by simp only [wanted, hb]; rfl) hr
          · have hr := ifb_2 hv rfl
            rw [strictT_eq, Tr.set_self hb] at hr
            exact skip _ _ (by simp only [wanted, hb]; rfl) hr
          · have hr := ifb_1 hv rfl
            rw [strictT_eq, Tr.set_self hb] at hr
            exact run _ (by simp only [wanted, hb]; rfl) hr
        · rename_i u hno hu
          refine skip _ _ ?_ hv
          simp only [wanted, hu]
        · exact hv.elim
      · exact hv.elim
    · exact hv.elim
theorem vcOps_sound {ops : Array Oper} {nt : Nat} {marks : List Nat} {w0 : World} {Q : Exit → Act → World → Prop} : ∀ (l : List Oper) (i : Nat) (t : Tr V) (h : H) (a : Act) (w : World) (K : Tr V → H → Prop), (∀ k, k < l.length → ops[i + k]? = l[k]?) →
    vcOps P ops nt l t h K → Sat w0 ⟨t, nt, marks, h⟩ a w → (∀ t' h' a' w', K t' h' → Sat w0 ⟨t', nt, marks, h'⟩ a' w' → Q .normal a' w') → wpOpsIn (rf none) 0 P ops Q (List.range' i l.length) a w := by
  intro l
  induction l with
  | nil => intro i t h a w K _ hv hs hQ; exact hQ _ _ _ _ hv hs
  | cons o l ih =>
    intro i t h a w K hget hv hs hQ
    have hv' : vcOper P ops nt o t h fun t' h' => vcOps P ops nt l t' h' K := hv
    obtain ⟨k, hk, v, t1, h1, hdo, hv1⟩ := vcOper_sound hv' marks
    have ho : ops[i]? = some o := by have := hget 0 (by simp); simpa using this
    have hrange : List.range' i (o :: l).length = i :: List.range' (i + 1) l.length := by simp [List.range'_succ]
    rw [hrange]
    simp only [wpOpsIn, ho]
    obtain ⟨m, hat, hf⟩ := hs
    refine doOp_sound (kf := 0) (selfK_sound hk _ 0) hdo hat (fun m' x w' hsr _ htr hmk => ?_)
    refine ih (i + 1) t1 h1 _ w' K (fun k hk => ?_) hv1 (Sat.step hat hf hsr htr hmk) hQ
    have := hget (k + 1) (by simp; omega)
    rw [show i + 1 + k = i + (k + 1) from by omega]
    simpa using this
theorem WpC.mono {c : Code} {s : St} {Q Q' : Ex → St → Prop} (h : WpC P c s Q) (hq : ∀ ex s', Q ex s' → Q' ex s') : WpC P c s Q' := by
  refine ⟨fun w0 a w hs => ?_⟩
  refine wpIn_mono (h.out w0 a w hs) ?_
  rintro e a' w' ⟨ex, s', h1, h2, h3⟩
  exact ⟨ex, s', hq ex s' h1, h2, h3⟩
theorem WpC.region {id : Nat} {ops : Array Oper} {s : St} {Q : Ex → St → Prop} (h : vcOps P ops s.nt ops.toList s.t s.h fun t' h' => Q .normal ⟨t', s.nt, s.marks, h'⟩) : WpC P (.region id ops false) s Q := by
  refine ⟨fun w0 a w hs => ?_⟩
  refine wpIn_region ?_
  have := vcOps_sound (P := P) (ops := ops) (nt := s.nt) (marks := s.marks) (w0 := w0) (Q := Post w0 Q) ops.toList 0 s.t s.h a w _ (fun k _ => by simp) h hs (fun t' h' a' w' hK hs' => ⟨.normal, _, hK, rfl, hs'⟩)
  rw [List.range_eq_range']
  simpa using this
theorem Post.ne_goto {w0 : World} {Q : Ex → St → Prop} {l : Nat} {a : Act} {w : World} : ¬ Post w0 Q (.goto l) a w := by
  rintro ⟨ex, _, _, h, _⟩; cases ex <;> cases h
theorem WpC.of_vc : ∀ {c : Code} {s : St} {Q : Ex → St → Prop}, vc P c s Q → WpC P c s Q
  | .skip, s, Q, h => ⟨fun w0 a w hs => wpIn_skip ⟨.normal, s, h, rfl, hs⟩⟩
  | .label _, s, Q, h => ⟨fun w0 a w hs => wpIn_label ⟨.normal, s, h, rfl, hs⟩⟩
  | .region id ops false, ⟨t, nt, marks, hh⟩, Q, h => WpC.region h
  | .region id ops true, s, Q, h => h
  | .seq c1 c2, s, Q, h => by
    refine ⟨fun w0 a w hs => ?_⟩
    refine wpIn_seq ?_
    refine wpIn_mono ((WpC.of_vc (c := c1) h).out w0 a w hs) ?_
    rintro e a1 w1 ⟨ex, s1, hq, rfl, hs1⟩
    cases ex with
    | normal => exact (WpC.of_vc (c := c2) hq).out w0 a1 w1 hs1
    | exit id => exact ⟨_, s1, hq, rfl, hs1⟩
    | ret => exact ⟨_, s1, hq, rfl, hs1⟩
  | .cond x c1 c2, s, Q, h => by
    refine ⟨fun w0 a w hs => ?_⟩
    obtain ⟨m, hat, hf⟩ := hs
    have h' : (match opX x s.t with
      | some (.bool c) => ifb c (vc P c1 s Q) (vc P c2 s Q)
      | _ => False) := h
    split at h'
    · rename_i b hx
      have hu := opX_VR hat.tr hx
      have hb : a.eval x = .bool b := by cases hbv : a.eval x <;> rw [hbv] at hu <;> cases hu; rfl
      cases b with
      | true => exact wpIn_cond_true hb ((WpC.of_vc (ifb_1 h' rfl)).out w0 a w ⟨m, hat, hf⟩)
      | false => exact wpIn_cond_false hb ((WpC.of_vc (ifb_2 h' rfl)).out w0 a w ⟨m, hat, hf⟩)
    · exact h'.elim
  | .block id c, s, Q, h => by
    refine ⟨fun w0 a w hs => ?_⟩
    refine wpIn_block ?_
    refine wpIn_mono ((WpC.of_vc (c := c) h).out w0 a w hs) ?_
    rintro e a1 w1 ⟨ex, s1, hq, rfl, hs1⟩
    cases ex with
    | normal => exact ⟨_, s1, hq, rfl, hs1⟩
    | ret => exact ⟨_, s1, hq, rfl, hs1⟩
    | exit id' =>
      show Exit.inBlock id _ (.exit id') a1 w1
      simp only [Exit.inBlock]
      dsimp only at hq
      cases hb : Nat.beq id' id with
      | true => rw [hb] at hq; rw [if_pos (Nat.eq_of_beq_eq_true hb)]; exact ⟨.normal, s1, hq, rfl, hs1⟩
      | false => rw [hb] at hq; rw [if_neg (fun he => by subst he; rw [Nat.beq_refl] at hb; cases hb)]; exact ⟨.exit id', s1, hq, rfl, hs1⟩
  | .loop c, s, Q, h => h
  | .scope c, s, Q, h => ⟨fun w0 a w hs => wpIn_scope (fun _ _ _ => Post.ne_goto) ((WpC.of_vc (c := c) h).out w0 a w hs)⟩
  | .exit id, s, Q, h => ⟨fun w0 a w hs => wpIn_exit ⟨.exit id, s, h, rfl, hs⟩⟩
  | .ret, s, Q, h => ⟨fun w0 a w hs => wpIn_ret ⟨.ret, s, h, rfl, hs⟩⟩
  | .rangeFunc _ _ _ _, s, Q, h => h
  | .goto _, s, Q, h => h.elim
  | .refuse _, s, Q, h => h.elim
def vlt0 (n : Nat) : V → Bool
  | .ptr b _ => Nat.blt b n
  | .sl b _ _ _ _ => Nat.blt b n
  | .map b => Nat.blt b n
  | .yld b => Nat.blt b n
  | .bool _ | .int _ _ | .str _ | .nilp | .nils | .nilm | .nilf | .rsl _ _ _ _ | .rptr _ => true
  | _ => false
def vlt1 (n : Nat) : V → Bool
  | .fn _ a b => a.all (vlt0 n) && b.all (vlt0 n)
  | .agg cs => cs.all (vlt0 n)
  | v => vlt0 n v
def vlt (n : Nat) : V → Bool
  | .tup vs => vs.all (vlt1 n)
  | .agg cs => cs.all (vlt1 n)
  | v => vlt1 n v
def mlt (n : Nat) (m : M) : M := ⟨fun i => if i < n then m i else none, m.fz⟩
theorem mlt_at {n : Nat} {m : M} {i : Nat} : mlt n m i = if i < n then m i else none := rfl
theorem VR.lt0 {n : Nat} {m : M} {v : V} {x : Value} (h : VR m v x) (hl : vlt0 n v = true) : VR (mlt n m) v x := by
  cases h with
  | bool b => exact .bool b
  | int k n => exact .int k n
  | str s => exact .str s
  | nilp => exact .nilp
  | nils => exact .nils
  | nilm => exact .nilm
  | nilf => exact .nilf
  | ptr h => exact .ptr (by rw [mlt_at, if_pos (by simpa [vlt0] using hl)]; exact h)
  | sl h he => exact .sl (by rw [mlt_at, if_pos (by simpa [vlt0] using hl)]; exact h) he
  | sl0 h => exact .sl0 (by rw [mlt_at, if_pos (by simpa [vlt0] using hl)]; exact h)
  | map h => exact .map (by rw [mlt_at, if_pos (by simpa [vlt0] using hl)]; exact h)
  | yld h => exact .yld (by rw [mlt_at, if_pos (by simpa [vlt0] using hl)]; exact h)
  | fn => cases hl
  | agg => cases hl
  | tup => cases hl
  | rsl h => exact .rsl h
  | rptr h => exact .rptr h
theorem VR.lt1 {n : Nat} {m : M} {v : V} {x : Value} (h : VR m v x) (hl : vlt1 n v = true) : VR (mlt n m) v x := by
  have h0 := h
  cases h with
  | fn la ha lb hb =>
    simp only [vlt1, Bool.and_eq_true, List.all_eq_true] at hl
    exact .fn la (fun k v x hv hx => (ha k v x hv hx).lt0 (hl.1 v (List.mem_of_getElem? hv))) lb (fun k v x hv hx => (hb k v x hv hx).lt0 (hl.2 v (List.mem_of_getElem? hv)))
  | agg l ha =>
    simp only [vlt1, List.all_eq_true] at hl
    exact .agg l (fun k v x hv hx => (ha k v x hv hx).lt0 (hl v (List.mem_of_getElem? hv)))
  | _ => exact h0.lt0 hl
theorem VR.lt {n : Nat} {m : M} {v : V} {x : Value} (h : VR m v x) (hl : vlt n v = true) : VR (mlt n m) v x := by
  have h0 := h
  cases h with
  | agg l ha =>
    simp only [vlt, List.all_eq_true] at hl
    exact .agg l (fun k v x hv hx => (ha k v x hv hx).lt1 (hl v (List.mem_of_getElem? hv)))
  | tup l ha =>
    simp only [vlt, List.all_eq_true] at hl
    exact .tup l (fun k v x hv hx => (ha k v x hv hx).lt1 (hl v (List.mem_of_getElem? hv)))
  | _ => exact h0.lt1 hl
inductive SubB (n : Nat) : Blk → Blk → Prop
  | cells {c c' : Tr V} {w w' : Bool} {g g' : Option (Nat × Nat)} (hc : ∀ k v, c.get k = some v → c'.get k = some v ∧ vlt n v = true) (hw : w = true → w' = true) (hg : g = none ∨ g = g') : SubB n (.cells c w g) (.cells c' w' g')
theorem SubB.same {n : Nat} {c : Tr V} {w : Bool} {g : Option (Nat × Nat)} (hc : ∀ k v, c.get k = some v → vlt n v = true) : SubB n (.cells c w g) (.cells c w g) := .cells (fun k v h => ⟨h, hc k v h⟩) id (.inr rfl)
theorem SubB.BR {n : Nat} {b b' : Blk} (hs : SubB n b b') {m : M} {s : Nat × Nat} {o : Option Obj} (h : BR m s o b') : BR (mlt n m) s o b := by
  cases hs with
  | cells hc hw hg =>
    obtain ⟨a, e, lo, hi, ho, h1, h2⟩ := h
    refine ⟨a, e, lo, hi, ho, fun k v hv => ?_, fun sz K hgK => ?_⟩
    · obtain ⟨g1, g2⟩ := hc k v hv
      obtain ⟨h3, ⟨x, hx, hvx⟩, h4⟩ := h1 k v g1
      exact ⟨h3, ⟨x, hx, hvx.lt g2⟩, h4⟩
    · rcases hg with hg | hg
      · rw [hg] at hgK; cases hgK
      · exact h2 sz K (hg ▸ hgK)
structure Drop (s1 s : St) : Prop where
  nt : s1.nt = s.nt
  marks : s1.marks = s.marks
  mlt : ∀ i ∈ s.marks, i < s1.h.n
  n : s1.h.n ≤ s.h.n
  tmp : ∀ i v, s1.t.get i = some v → s.t.get i = some v ∧ vlt s1.h.n v = true
  blk : ∀ i b, s1.h.get i = some b → i < s1.h.n ∧ ∃ b', s.h.get i = some b' ∧ SubB s1.h.n b b'
theorem mlt_some {n : Nat} {m : M} {i : Nat} {p : Nat × Nat × Nat} (h : mlt n m i = some p) : i < n ∧ m i = some p := by
  rw [mlt_at] at h; split at h
  · rename_i hi; exact ⟨hi, h⟩
  · cases h
theorem MK.lt {Z : Option Nat} {n : Nat} {m : M} {l : List Nat} {ds : List Deferred} (h : MK Z m l ds) (hl : ∀ i ∈ l, i < n) : MK Z (mlt n m) l ds := by
  induction h with
  | nil => exact .nil
  | @cons i r l ds hm hz hn _ ih => exact .cons (by rw [mlt_at, if_pos (hl i (by simp))]; exact hm) hz hn (ih (fun j hj => hl j (by simp [hj])))
  | skip hz hf hn _ ih => exact .skip hz hf hn (ih hl)
theorem Drop.sat {s1 s : St} (d : Drop s1 s) {w0 : World} {a : Act} {w : World} (h : Sat w0 s a w) : Sat w0 s1 a w := by
  obtain ⟨m, hat, hf⟩ := h
  refine ⟨As.mlt s1.h.n m, ⟨?_, hat.base, ⟨by rw [d.nt]; exact hat.tr.1, fun i v hi => ?_⟩, by rw [d.marks]; exact hat.mks.lt d.mlt⟩, hf⟩
  · exact {
      blk := fun i b r s' hi hm => by
        obtain ⟨hlt, b', hb', hsub⟩ := d.blk i b hi
        exact hsub.BR (hat.hr.blk i b' r s' hb' (mlt_some hm).2)
      inj := fun i j bi bj r s' s'' hi hj hw hl hmi hmj => by
        obtain ⟨_, bi', hbi, hsi⟩ := d.blk i bi hi
        obtain ⟨_, bj', hbj, hsj⟩ := d.blk j bj hj
        refine hat.hr.inj i j bi' bj' r s' s'' hbi hbj ?_ ?_ (mlt_some hmi).2 (mlt_some hmj).2
        · cases hsi with | cells _ h _ => exact h hw
        · cases hsj with | cells _ _ _ => rfl
      own := fun i b r s' hi hw hm => by
        obtain ⟨_, bi', hbi, hsi⟩ := d.blk i b hi
        refine hat.hr.own i bi' r s' hbi ?_ (mlt_some hm).2
        cases hsi with | cells _ h _ => exact h hw
      rng := fun i r s' hm => hat.hr.rng i r s' (mlt_some hm).2
      frz := hat.hr.frz
      nfz := fun i b r s' hi hw hm => by
        obtain ⟨_, bi', hbi, hsi⟩ := d.blk i b hi
        refine hat.hr.nfz i bi' r s' hbi ?_ (mlt_some hm).2
        cases hsi with | cells _ h _ => exact h hw
      lt := fun i b hi => (d.blk i b hi).1
      dom := fun i hi => by rw [mlt_at, if_neg (by omega)] }
  · obtain ⟨h1, h2⟩ := d.tmp i v hi
    obtain ⟨x, hx, hv⟩ := hat.tr.2 i v h1
    exact ⟨x, hx, hv.lt h2⟩
theorem WpC.drop {c : Code} {s1 s : St} {Q : Ex → St → Prop} (d : Drop s1 s) (h : WpC P c s1 Q) : WpC P c s Q := ⟨fun w0 a w hs => h.out w0 a w (d.sat hs)⟩
theorem WpC.loop {c : Code} {Q : Ex → St → Prop} (Inv : Nat → St → Prop)
    (hI : ∀ n s, Inv n s → WpC P c s (fun ex s' => match ex with | .normal => ∃ n' s1, n' < n ∧ Inv n' s1 ∧ Drop s1 s' | ex => Q ex s')) : ∀ n s, Inv n s → WpC P (.loop c) s Q := by
  have key : ∀ (k n : Nat) (s : St), n < k → Inv n s → ∀ (w0 : World) (a : Act) (w : World), Sat w0 s a w → Code.roundsIn (rf none) 0 P c (Post w0 Q) k a w := by
    intro k
    induction k with
    | zero => intro n s hn; omega
    | succ k ih =>
      intro n s hn hinv w0 a w hs
      rw [roundsIn_succ]
      refine wpIn_mono ((hI n s hinv).out w0 a w hs) ?_
      rintro e a1 w1 ⟨ex, s', hq, rfl, hs'⟩
      cases ex with
      | normal => obtain ⟨n', s1, hlt, hinv', hd⟩ := hq; exact ih n' s1 (by omega) hinv' w0 a1 w1 (hd.sat hs')
      | exit id => exact ⟨_, s', hq, rfl, hs'⟩
      | ret => exact ⟨_, s', hq, rfl, hs'⟩
  intro n s hinv
  refine ⟨fun w0 a w hs => ?_⟩
  exact wpIn_loop_rounds (n + 1) (key (n + 1) n s (by omega) hinv w0 a w hs)
noncomputable def tm : List (Nat × V) → Tr V
  | [] => .leaf
  | (i, v) :: l => strictT (tm l) fun t => strictT (t.set i v) fun t => t
theorem tm_get : ∀ {l : List (Nat × V)} {i : Nat} {v : V}, (tm l).get i = some v → (i, v) ∈ l
  | [], i, v, h => by have h' : (Tr.leaf : Tr V).get i = some v := h; rw [Tr.get_leaf] at h'; cases h'
  | (j, u) :: l, i, v, h => by
    have h' : (strictT (tm l) fun t => strictT (t.set j u) fun t => t).get i = some v := h
    rw [strictT_eq, strictT_eq, Tr.get_set] at h'
    split at h'
    · rename_i he; cases h'; rw [he]; exact List.mem_cons_self
    · exact List.mem_cons_of_mem _ (tm_get h')
noncomputable def ofB (l : List Blk) : Nat → Tr Blk :=
  @List.rec Blk (fun _ => Nat → Tr Blk) (fun _ => .leaf) (fun v _ ih o => strictT (ih (Nat.add o 1)) fun c => strictT (c.set o v) fun c => c) l
theorem get_ofB : ∀ (l : List Blk) (o i : Nat), (ofB l o).get i = if o ≤ i then l[i - o]? else none := by
  intro l
  induction l with
  | nil => intro o i; show (Tr.leaf : Tr Blk).get i = _; rw [Tr.get_leaf]; simp
  | cons v l ih =>
    intro o i
    have : ofB (v :: l) o = (ofB l (o + 1)).set o v := by
      show strictT (ofB l (o + 1)) (fun c => strictT (c.set o v) fun c => c) = _
      rw [strictT_eq, strictT_eq]
    rw [this, Tr.get_set]
    by_cases hi : i = o
    · subst hi; simp
    · rw [if_neg hi, ih]
      by_cases h1 : o ≤ i
      · rw [if_pos h1, if_pos (by omega), show i - o = (i - (o + 1)) + 1 from by omega, List.getElem?_cons_succ]
      · rw [if_neg h1, if_neg (by omega)]
noncomputable def hp (l : List Blk) : H := ⟨ofB l 0, l.length, 0⟩
theorem hp_get (l : List Blk) (i : Nat) : (hp l).get i = l[i]? := by show (ofB l 0).get i = _; rw [get_ofB]; simp
theorem hp_n (l : List Blk) : (hp l).n = l.length := rfl
def tmOk (n : Nat) (t : Tr V) : List (Nat × V) → Prop
  | [] => True
  | (i, v) :: l => (t.get i = some v ∧ vlt n v = true) ∧ tmOk n t l
def hpOk (n : Nat) (h : H) : Nat → List Blk → Prop
  | _, [] => True
  | k, b :: l => (∃ b', h.get k = some b' ∧ SubB n b b') ∧ hpOk n h (k + 1) l
theorem tmOk_mem {n : Nat} {t : Tr V} : ∀ {l : List (Nat × V)}, tmOk n t l → ∀ p ∈ l, t.get p.1 = some p.2 ∧ vlt n p.2 = true
  | [], _, _, h => by cases h
  | q :: l, ⟨h1, h2⟩, p, hp => by
    rcases List.mem_cons.1 hp with rfl | hp
    · exact h1
    · exact tmOk_mem h2 p hp
theorem hpOk_get {n : Nat} {h : H} : ∀ {l : List Blk} {k : Nat}, hpOk n h k l → ∀ i b, l[i]? = some b → ∃ b', h.get (k + i) = some b' ∧ SubB n b b'
  | [], _, _, i, b, hi => by simp at hi
  | c :: l, k, ⟨h1, h2⟩, i, b, hi => by
    cases i with
    | zero => simp at hi; subst hi; exact h1
    | succ i => have := hpOk_get h2 i b (by simpa using hi); rwa [show k + 1 + i = k + (i + 1) from by omega] at this
theorem Drop.mk' {l : List (Nat × V)} {bs : List Blk} {t : Tr V} {nt : Nat} {h : H} (hn : bs.length ≤ h.n) (ht : tmOk bs.length t l) (hb : hpOk bs.length h 0 bs) : Drop ⟨tm l, nt, [], hp bs⟩ ⟨t, nt, [], h⟩ where
  nt := rfl
  marks := rfl
  mlt := fun i hi => by cases hi
  n := hn
  tmp := fun i v hi => tmOk_mem ht _ (tm_get hi)
  blk := fun i b hi => by
    have hi' : bs[i]? = some b := by rw [← hp_get]; exact hi
    refine ⟨?_, ?_⟩
    · exact (List.getElem?_eq_some_iff.1 hi').1
    · have := hpOk_get hb i b hi'; rwa [Nat.zero_add] at this
end
end Go.As
/- Values and blocks, with other numbers for the blocks. -/
namespace Go.As
mutual
def renV (ρ : Nat → Nat) : V → V
  | .bool b => .bool b
  | .int k n => .int k n
  | .str s => .str s
  | .ptr b o => .ptr (ρ b) o
  | .nilp => .nilp
  | .sl b o l c e => .sl (ρ b) o l c e
  | .nils => .nils
  | .map b => .map (ρ b)
  | .nilm => .nilm
  | .fn f a c => .fn f (renL ρ a) (renL ρ c)
  | .yld l => .yld (ρ l)
  | .nilf => .nilf
  | .agg cs => .agg (renL ρ cs)
  | .tup vs => .tup (renL ρ vs)
  | .rsl a b c d => .rsl a b c d
  | .rptr c => .rptr c
def renL (ρ : Nat → Nat) : List V → List V
  | [] => []
  | v :: l => renV ρ v :: renL ρ l
end
mutual
def ltV (n : Nat) : V → Bool
  | .ptr b _ => Nat.blt b n
  | .sl b _ _ _ _ => Nat.blt b n
  | .map b => Nat.blt b n
  | .yld b => Nat.blt b n
  | .fn _ a c => ltL n a && ltL n c
  | .agg cs => ltL n cs
  | .tup vs => ltL n vs
  | _ => true
def ltL (n : Nat) : List V → Bool
  | [] => true
  | v :: l => ltV n v && ltL n l
end
structure RenM (n : Nat) (ρ : Nat → Nat) (m m1 : M) : Prop where
  at' : ∀ i, i < n → m1 i = m (ρ i)
  fz : ∀ r p, m.fz r = some p → m1.fz r = some p
instance {n : Nat} {ρ : Nat → Nat} {m m1 : M} : CoeFun (RenM n ρ m m1) fun _ => ∀ i, i < n → m1 i = m (ρ i) := ⟨RenM.at'⟩
structure StayM (X : List Nat) (m m' : M) : Prop where
  at' : ∀ i, i ∉ X → ∀ p, m i = some p → m' i = some p
  fz : ∀ r p, m.fz r = some p → m'.fz r = some p
instance {X : List Nat} {m m' : M} : CoeFun (StayM X m m') fun _ => ∀ i, i ∉ X → ∀ p, m i = some p → m' i = some p := ⟨StayM.at'⟩
theorem renL_length (ρ : Nat → Nat) : ∀ l : List V, (renL ρ l).length = l.length
  | [] => rfl
  | v :: l => by simp [renL, renL_length ρ l]
theorem ltL_get {n : Nat} : ∀ {l : List V}, ltL n l = true → ∀ (i : Nat) (v : V), l[i]? = some v → ltV n v = true
  | [], _, i, v, h => by simp at h
  | u :: l, h, 0, v, hv => by simp [ltL] at h hv; subst hv; exact h.1
  | u :: l, h, i + 1, v, hv => by simp [ltL] at h; exact ltL_get h.2 i v (by simpa using hv)
mutual
theorem VR.ren {m m1 : M} {ρ : Nat → Nat} {n : Nat} (hm : RenM n ρ m m1) : ∀ (v : V) {x : Value}, ltV n v = true → VR m (renV ρ v) x → VR m1 v x
  | .bool b, x, _, h => by cases h; exact .bool b
  | .int k i, x, _, h => by cases h; exact .int k i
  | .str s, x, _, h => by cases h; exact .str s
  | .ptr b o, x, hl, h => by
    cases h with | ptr h => exact .ptr (by rw [hm b (by simpa [ltV] using hl)]; exact h)
  | .nilp, x, _, h => by cases h; exact .nilp
  | .sl b o l c e, x, hl, h => by
    cases h with
    | sl h he => exact .sl (by rw [hm b (by simpa [ltV] using hl)]; exact h) he
    | sl0 h => exact .sl0 (by rw [hm b (by simpa [ltV] using hl)]; exact h)
  | .nils, x, _, h => by cases h; exact .nils
  | .map b, x, hl, h => by
    cases h with | map h => exact .map (by rw [hm b (by simpa [ltV] using hl)]; exact h)
  | .nilm, x, _, h => by cases h; exact .nilm
  | .fn f a c, x, hl, h => by
    simp only [ltV, Bool.and_eq_true] at hl
    cases h with
    | fn la ha lb hb =>
      exact .fn (by rw [← renL_length ρ]; exact la) (VRs.ren hm a hl.1 ⟨la, ha⟩).2 (by rw [← renL_length ρ]; exact lb) (VRs.ren hm c hl.2 ⟨lb, hb⟩).2
  | .yld l, x, hl, h => by
    cases h with | yld h => exact .yld (by rw [hm l (by simpa [ltV] using hl)]; exact h)
  | .nilf, x, _, h => by cases h; exact .nilf
  | .agg cs, x, hl, h => by
    cases h with
    | agg la ha => exact .agg (by rw [← renL_length ρ]; exact la) (VRs.ren hm cs hl ⟨la, ha⟩).2
  | .tup cs, x, hl, h => by
    cases h with
    | tup la ha => exact .tup (by rw [← renL_length ρ]; exact la) (VRs.ren hm cs hl ⟨la, ha⟩).2
  | .rsl a b c d, x, _, h => by cases h with | rsl h => exact .rsl (h.mono hm.fz)
  | .rptr c, x, _, h => by cases h with | rptr h => exact .rptr (h.mono hm.fz)
theorem VRs.ren {m m1 : M} {ρ : Nat → Nat} {n : Nat} (hm : RenM n ρ m m1) : ∀ (l : List V) {a : Array Value}, ltL n l = true → ((renL ρ l).length = a.size ∧ ∀ (k : Nat) (v : V) (x : Value), (renL ρ l)[k]? = some v → a[k]? = some x → VR m v x) → (l.length = a.size ∧ ∀ (k : Nat) (v : V) (x : Value), l[k]? = some v → a[k]? = some x → VR m1 v x)
  | [], a, _, h => ⟨h.1, fun k v x hv => by simp at hv⟩
  | u :: l, a, hl, h => by
    simp only [ltL, Bool.and_eq_true] at hl
    refine ⟨by rw [← h.1, renL_length], fun k v x hv hx => ?_⟩
    cases k with
    | zero =>
      simp at hv; subst hv
      exact VR.ren hm u hl.1 (h.2 0 _ x (by simp [renL]) hx)
    | succ k =>
      have hq : VRs m (renL ρ l) (a.toList.drop 1) := ⟨by have := h.1; simp [renL] at this ⊢; omega, fun j w y hw hy => h.2 (j + 1) w y (by simpa [renL] using hw) (by rw [List.getElem?_drop] at hy; rw [Nat.add_comm]; simpa using hy)⟩
      have := VRs.ren hm l (a := (a.toList.drop 1).toArray) hl.2 ⟨by simpa using hq.1, fun j w y hw hy => hq.2 j w y hw (by simpa using hy)⟩
      refine this.2 k v x (by simpa using hv) ?_
      simp only [List.getElem?_toArray, List.getElem?_drop]
      rw [Nat.add_comm]; simpa using hx
end
mutual
theorem VR.ren' {m m1 : M} {ρ : Nat → Nat} {n : Nat} (hz : ∀ r p, m1.fz r = some p → m.fz r = some p) (hm : ∀ i, i < n → ∀ p, m1 i = some p → m (ρ i) = some p) : ∀ (v : V) {x : Value}, ltV n v = true → VR m1 v x → VR m (renV ρ v) x
  | .bool b, x, _, h => by cases h; exact .bool b
  | .int k i, x, _, h => by cases h; exact .int k i
  | .str s, x, _, h => by cases h; exact .str s
  | .ptr b o, x, hl, h => by
    cases h with | ptr h => exact .ptr (hm b (by simpa [ltV] using hl) _ h)
  | .nilp, x, _, h => by cases h; exact .nilp
  | .sl b o l c e, x, hl, h => by
    cases h with
    | sl h he => exact .sl (hm b (by simpa [ltV] using hl) _ h) he
    | sl0 h => exact .sl0 (hm b (by simpa [ltV] using hl) _ h)
  | .nils, x, _, h => by cases h; exact .nils
  | .map b, x, hl, h => by
    cases h with | map h => exact .map (hm b (by simpa [ltV] using hl) _ h)
  | .nilm, x, _, h => by cases h; exact .nilm
  | .fn f a c, x, hl, h => by
    simp only [ltV, Bool.and_eq_true] at hl
    cases h with
    | fn la ha lb hb =>
      exact .fn (by rw [renL_length ρ]; exact la) (VRs.ren' hz hm a hl.1 ⟨la, ha⟩).2 (by rw [renL_length ρ]; exact lb) (VRs.ren' hz hm c hl.2 ⟨lb, hb⟩).2
  | .yld l, x, hl, h => by
    cases h with | yld h => exact .yld (hm l (by simpa [ltV] using hl) _ h)
  | .nilf, x, _, h => by cases h; exact .nilf
  | .agg cs, x, hl, h => by
    cases h with
    | agg la ha => exact .agg (by rw [renL_length ρ]; exact la) (VRs.ren' hz hm cs hl ⟨la, ha⟩).2
  | .tup cs, x, hl, h => by
    cases h with
    | tup la ha => exact .tup (by rw [renL_length ρ]; exact la) (VRs.ren' hz hm cs hl ⟨la, ha⟩).2
  | .rsl a b c d, x, _, h => by cases h with | rsl h => exact .rsl (h.mono hz)
  | .rptr c, x, _, h => by cases h with | rptr h => exact .rptr (h.mono hz)
theorem VRs.ren' {m m1 : M} {ρ : Nat → Nat} {n : Nat} (hz : ∀ r p, m1.fz r = some p → m.fz r = some p) (hm : ∀ i, i < n → ∀ p, m1 i = some p → m (ρ i) = some p) : ∀ (l : List V) {a : Array Value}, ltL n l = true → (l.length = a.size ∧ ∀ (k : Nat) (v : V) (x : Value), l[k]? = some v → a[k]? = some x → VR m1 v x) → ((renL ρ l).length = a.size ∧ ∀ (k : Nat) (v : V) (x : Value), (renL ρ l)[k]? = some v → a[k]? = some x → VR m v x)
  | [], a, _, h => ⟨h.1, fun k v x hv => by simp [renL] at hv⟩
  | u :: l, a, hl, h => by
    simp only [ltL, Bool.and_eq_true] at hl
    refine ⟨by rw [renL_length, h.1], fun k v x hv hx => ?_⟩
    cases k with
    | zero =>
      simp [renL] at hv; subst hv
      exact VR.ren' hz hm u hl.1 (h.2 0 _ x (by simp) hx)
    | succ k =>
      have hq : VRs m1 l (a.toList.drop 1) := ⟨by have := h.1; simp at this ⊢; omega, fun j w y hw hy => h.2 (j + 1) w y (by simpa using hw) (by rw [List.getElem?_drop] at hy; rw [Nat.add_comm]; simpa using hy)⟩
      have := VRs.ren' hz hm l (a := (a.toList.drop 1).toArray) hl.2 ⟨by simpa using hq.1, fun j w y hw hy => hq.2 j w y hw (by simpa using hy)⟩
      refine this.2 k v x (by simpa [renL] using hv) ?_
      simp only [List.getElem?_toArray, List.getElem?_drop]
      rw [Nat.add_comm]; simpa using hx
end
mutual
theorem VR.ltV {m : M} {n : Nat} (hd : ∀ i, n ≤ i → m i = none) : ∀ (v : V) {x : Value}, VR m v x → ltV n v = true
  | .bool b, x, h => rfl
  | .int k i, x, h => rfl
  | .str s, x, h => rfl
  | .ptr b o, x, h => by
    cases h with | ptr h => simp only [As.ltV, Nat.blt_eq]; exact Nat.lt_of_not_le (fun hc => by rw [hd b hc] at h; cases h)
  | .nilp, x, h => rfl
  | .sl b o l c e, x, h => by
    cases h with
    | sl h he => simp only [As.ltV, Nat.blt_eq]; exact Nat.lt_of_not_le (fun hc => by rw [hd b hc] at h; cases h)
    | sl0 h => simp only [As.ltV, Nat.blt_eq]; exact Nat.lt_of_not_le (fun hc => by rw [hd b hc] at h; cases h)
  | .nils, x, h => rfl
  | .map b, x, h => by
    cases h with | map h => simp only [As.ltV, Nat.blt_eq]; exact Nat.lt_of_not_le (fun hc => by rw [hd b hc] at h; cases h)
  | .nilm, x, h => rfl
  | .fn f a c, x, h => by
    cases h with
    | fn la ha lb hb => simp only [As.ltV, Bool.and_eq_true]; exact ⟨VRs.ltL hd a ⟨la, ha⟩, VRs.ltL hd c ⟨lb, hb⟩⟩
  | .yld l, x, h => by
    cases h with | yld h => simp only [As.ltV, Nat.blt_eq]; exact Nat.lt_of_not_le (fun hc => by rw [hd l hc] at h; cases h)
  | .nilf, x, h => rfl
  | .agg cs, x, h => by cases h with | agg la ha => exact VRs.ltL hd cs ⟨la, ha⟩
  | .tup cs, x, h => by cases h with | tup la ha => exact VRs.ltL hd cs ⟨la, ha⟩
  | .rsl a b c d, x, h => rfl
  | .rptr c, x, h => rfl
theorem VRs.ltL {m : M} {n : Nat} (hd : ∀ i, n ≤ i → m i = none) : ∀ (l : List V) {a : Array Value}, (l.length = a.size ∧ ∀ (k : Nat) (v : V) (x : Value), l[k]? = some v → a[k]? = some x → VR m v x) → ltL n l = true
  | [], a, _ => rfl
  | u :: l, a, h => by
    simp only [As.ltL, Bool.and_eq_true]
    have hpos : 0 < a.size := by have := h.1; simp at this; omega
    refine ⟨VR.ltV hd u (h.2 0 u a[0] (by simp) (Array.getElem?_eq_getElem hpos)), ?_⟩
    refine VRs.ltL hd l (a := (a.toList.drop 1).toArray) ⟨by have := h.1; simp at this ⊢; omega, fun j w y hw hy => h.2 (j + 1) w y (by simpa using hw) ?_⟩
    simp only [List.getElem?_toArray, List.getElem?_drop] at hy
    rw [Nat.add_comm]; simpa using hy
end
theorem ltV_bare0 {n : Nat} {v : V} (h : bare0 v = true) : ltV n v = true := by cases v <;> first | rfl | cases h
theorem renV_bare0 {ρ : Nat → Nat} {v : V} (h : bare0 v = true) : renV ρ v = v := by cases v <;> first | rfl | cases h
mutual
theorem ltV.mono {n k : Nat} (hk : n ≤ k) : ∀ (v : V), ltV n v = true → ltV k v = true
  | .bool _, _ | .int _ _, _ | .str _, _ | .nilp, _ | .nils, _ | .nilm, _ | .nilf, _ | .rsl _ _ _ _, _ | .rptr _, _ => rfl
  | .ptr b _, h => by simp only [As.ltV, Nat.blt_eq] at h ⊢; omega
  | .sl b _ _ _ _, h => by simp only [As.ltV, Nat.blt_eq] at h ⊢; omega
  | .map b, h => by simp only [As.ltV, Nat.blt_eq] at h ⊢; omega
  | .yld b, h => by simp only [As.ltV, Nat.blt_eq] at h ⊢; omega
  | .fn _ a c, h => by simp only [As.ltV, Bool.and_eq_true] at h ⊢; exact ⟨ltL.mono hk a h.1, ltL.mono hk c h.2⟩
  | .agg cs, h => ltL.mono hk cs h
  | .tup cs, h => ltL.mono hk cs h
theorem ltL.mono {n k : Nat} (hk : n ≤ k) : ∀ (l : List V), ltL n l = true → ltL k l = true
  | [], _ => rfl
  | v :: l, h => by simp only [As.ltL, Bool.and_eq_true] at h ⊢; exact ⟨ltV.mono hk v h.1, ltL.mono hk l h.2⟩
end
mutual
theorem renV_id {ρ : Nat → Nat} {n : Nat} (hρ : ∀ i, i < n → ρ i = i) : ∀ (v : V), ltV n v = true → renV ρ v = v
  | .bool _, _ | .int _ _, _ | .str _, _ | .nilp, _ | .nils, _ | .nilm, _ | .nilf, _ | .rsl _ _ _ _, _ | .rptr _, _ => rfl
  | .ptr b _, h => by simp only [As.ltV, Nat.blt_eq] at h; simp only [renV, hρ b h]
  | .sl b _ _ _ _, h => by simp only [As.ltV, Nat.blt_eq] at h; simp only [renV, hρ b h]
  | .map b, h => by simp only [As.ltV, Nat.blt_eq] at h; simp only [renV, hρ b h]
  | .yld b, h => by simp only [As.ltV, Nat.blt_eq] at h; simp only [renV, hρ b h]
  | .fn _ a c, h => by simp only [As.ltV, Bool.and_eq_true] at h; simp only [renV, renL_id hρ a h.1, renL_id hρ c h.2]
  | .agg cs, h => by simp only [renV, renL_id hρ cs h]
  | .tup cs, h => by simp only [renV, renL_id hρ cs h]
theorem renL_id {ρ : Nat → Nat} {n : Nat} (hρ : ∀ i, i < n → ρ i = i) : ∀ (l : List V), ltL n l = true → renL ρ l = l
  | [], _ => rfl
  | v :: l, h => by simp only [As.ltL, Bool.and_eq_true] at h; simp only [renL, renV_id hρ v h.1, renL_id hρ l h.2]
end
def memB (l : List Nat) (i : Nat) : Bool := match l with
  | [] => false
  | a :: l => match Nat.beq i a with
    | true => true
    | false => memB l i
theorem memB_iff {i : Nat} : ∀ {l : List Nat}, memB l i = true ↔ i ∈ l
  | [] => by simp [memB]
  | a :: l => by
    unfold memB
    cases h : Nat.beq i a with
    | true => rw [Nat.eq_of_beq_eq_true h]; simp
    | false =>
      have : i ≠ a := fun he => by rw [he, Nat.beq_refl] at h; cases h
      rw [List.mem_cons]
      exact ⟨fun h => .inr (memB_iff.1 h), fun h => h.elim (fun h => absurd h this) memB_iff.2⟩
theorem memB_not {i : Nat} {l : List Nat} (h : memB l i = false) : i ∉ l := fun hc => by rw [memB_iff.2 hc] at h; cases h
mutual
def avV (X : List Nat) : V → Bool
  | .ptr b _ => !memB X b
  | .sl b _ _ _ _ => !memB X b
  | .map b => !memB X b
  | .yld b => !memB X b
  | .fn _ a c => avL X a && avL X c
  | .agg cs => avL X cs
  | .tup vs => avL X vs
  | _ => true
def avL (X : List Nat) : List V → Bool
  | [] => true
  | v :: l => avV X v && avL X l
end
mutual
theorem VR.av {m m' : M} {X : List Nat} (hm : StayM X m m') : ∀ (v : V) {x : Value}, avV X v = true → VR m v x → VR m' v x
  | .bool b, x, _, h => by cases h; exact .bool b
  | .int k i, x, _, h => by cases h; exact .int k i
  | .str s, x, _, h => by cases h; exact .str s
  | .ptr b o, x, hl, h => by
    cases h with | ptr h => exact .ptr (hm b (memB_not (by simpa [avV] using hl)) _ h)
  | .nilp, x, _, h => by cases h; exact .nilp
  | .sl b o l c e, x, hl, h => by
    cases h with
    | sl h he => exact .sl (hm b (memB_not (by simpa [avV] using hl)) _ h) he
    | sl0 h => exact .sl0 (hm b (memB_not (by simpa [avV] using hl)) _ h)
  | .nils, x, _, h => by cases h; exact .nils
  | .map b, x, hl, h => by
    cases h with | map h => exact .map (hm b (memB_not (by simpa [avV] using hl)) _ h)
  | .nilm, x, _, h => by cases h; exact .nilm
  | .fn f a c, x, hl, h => by
    simp only [avV, Bool.and_eq_true] at hl
    cases h with
    | fn la ha lb hb => exact .fn la (VRs.av hm a hl.1 ⟨la, ha⟩).2 lb (VRs.av hm c hl.2 ⟨lb, hb⟩).2
  | .yld l, x, hl, h => by
    cases h with | yld h => exact .yld (hm l (memB_not (by simpa [avV] using hl)) _ h)
  | .nilf, x, _, h => by cases h; exact .nilf
  | .agg cs, x, hl, h => by
    cases h with
    | agg la ha => exact .agg la (VRs.av hm cs hl ⟨la, ha⟩).2
  | .tup cs, x, hl, h => by
    cases h with
    | tup la ha => exact .tup la (VRs.av hm cs hl ⟨la, ha⟩).2
  | .rsl a b c d, x, _, h => by cases h with | rsl h => exact .rsl (h.mono hm.fz)
  | .rptr c, x, _, h => by cases h with | rptr h => exact .rptr (h.mono hm.fz)
theorem VRs.av {m m' : M} {X : List Nat} (hm : StayM X m m') : ∀ (l : List V) {a : Array Value}, avL X l = true → (l.length = a.size ∧ ∀ (k : Nat) (v : V) (x : Value), l[k]? = some v → a[k]? = some x → VR m v x) → (l.length = a.size ∧ ∀ (k : Nat) (v : V) (x : Value), l[k]? = some v → a[k]? = some x → VR m' v x)
  | [], a, _, h => ⟨h.1, fun k v x hv => by simp at hv⟩
  | u :: l, a, hl, h => by
    simp only [avL, Bool.and_eq_true] at hl
    refine ⟨h.1, fun k v x hv hx => ?_⟩
    cases k with
    | zero =>
      simp at hv; subst hv
      exact VR.av hm u hl.1 (h.2 0 _ x (by simp) hx)
    | succ k =>
      have hq : VRs m l (a.toList.drop 1) := ⟨by have := h.1; simp at this ⊢; omega, fun j w y hw hy => h.2 (j + 1) w y (by simpa using hw) (by rw [List.getElem?_drop] at hy; rw [Nat.add_comm]; simpa using hy)⟩
      have := VRs.av hm l (a := (a.toList.drop 1).toArray) hl.2 ⟨by simpa using hq.1, fun j w y hw hy => hq.2 j w y hw (by simpa using hy)⟩
      refine this.2 k v x (by simpa using hv) ?_
      simp only [List.getElem?_toArray, List.getElem?_drop]
      rw [Nat.add_comm]; simpa using hx
end
mutual
theorem avV_nil : ∀ (v : V), avV [] v = true
  | .bool _ | .int _ _ | .str _ | .nilp | .nils | .nilm | .nilf | .ptr _ _ | .sl _ _ _ _ _ | .map _ | .yld _ | .rsl _ _ _ _ | .rptr _ => rfl
  | .fn _ a c => by simp only [avV, avL_nil a, avL_nil c]; rfl
  | .agg cs => avL_nil cs
  | .tup cs => avL_nil cs
theorem avL_nil : ∀ (l : List V), avL [] l = true
  | [] => rfl
  | v :: l => by simp only [avL, avV_nil v, avL_nil l]; rfl
end
theorem avV_bare0 {X : List Nat} {v : V} (h : bare0 v = true) : avV X v = true := by cases v <;> first | rfl | cases h
mutual
theorem renV_av {ρ : Nat → Nat} {n : Nat} {X : List Nat} (hρ : ∀ i, i < n → i ∉ X → ρ i = i) : ∀ (v : V), ltV n v = true → avV X v = true → renV ρ v = v
  | .bool _, _, _ | .int _ _, _, _ | .str _, _, _ | .nilp, _, _ | .nils, _, _ | .nilm, _, _ | .nilf, _, _ | .rsl _ _ _ _, _, _ | .rptr _, _, _ => rfl
  | .ptr b _, h, ha => by simp only [As.ltV, Nat.blt_eq] at h; simp only [renV, hρ b h (memB_not (by simpa [avV] using ha))]
  | .sl b _ _ _ _, h, ha => by simp only [As.ltV, Nat.blt_eq] at h; simp only [renV, hρ b h (memB_not (by simpa [avV] using ha))]
  | .map b, h, ha => by simp only [As.ltV, Nat.blt_eq] at h; simp only [renV, hρ b h (memB_not (by simpa [avV] using ha))]
  | .yld b, h, ha => by simp only [As.ltV, Nat.blt_eq] at h; simp only [renV, hρ b h (memB_not (by simpa [avV] using ha))]
  | .fn _ a c, h, ha => by simp only [As.ltV, avV, Bool.and_eq_true] at h ha; simp only [renV, renL_av hρ a h.1 ha.1, renL_av hρ c h.2 ha.2]
  | .agg cs, h, ha => by simp only [renV, renL_av hρ cs h ha]
  | .tup cs, h, ha => by simp only [renV, renL_av hρ cs h ha]
theorem renL_av {ρ : Nat → Nat} {n : Nat} {X : List Nat} (hρ : ∀ i, i < n → i ∉ X → ρ i = i) : ∀ (l : List V), ltL n l = true → avL X l = true → renL ρ l = l
  | [], _, _ => rfl
  | v :: l, h, ha => by simp only [As.ltL, avL, Bool.and_eq_true] at h ha; simp only [renL, renV_av hρ v h.1 ha.1, renL_av hρ l h.2 ha.2]
end
theorem VR.of_lt0 {m m' : M} (hz : ∀ r p, m.fz r = some p → m'.fz r = some p) {v : V} {x : Value} (hl : As.ltV 0 v = true) (h : VR m v x) : VR m' v x := by
  have := VR.ren (m := m) (m1 := m') (ρ := fun i => i) (n := 0) ⟨fun i hi => by omega, hz⟩ v hl (by rw [renV_id (n := 0) (fun i hi => by omega) v hl]; exact h)
  exact this
end Go.As
/- What a call reads of its caller's memory, as a memory of its own. -/
namespace Go.As
abbrev Vw := List (Option (Nat × Nat))
inductive Ca (vs : Vw) : V → V → Prop
  | bare {v : V} (h : bare0 v = true) : Ca vs v v
  | sl {b o k len cap : Nat} {ex : Bool} (h : vs[k]? = some (some (b, o))) : Ca vs (.sl b o len cap ex) (.sl k 0 len cap ex)
  | map {b k : Nat} (h : vs[k]? = some (some (b, 0))) : Ca vs (.map b) (.map k)
  | ptr {b o k i : Nat} (h : vs[k]? = some (some (b, o))) : Ca vs (.ptr b (o + i)) (.ptr k i)
  | lt0 {v : V} (h : ltV 0 v = true) : Ca vs v v
  | agg {cs ds : List V} (hl : cs.length = ds.length) (h : ∀ (i : Nat) (v d : V), cs[i]? = some v → ds[i]? = some d → Ca vs v d) : Ca vs (.agg cs) (.agg ds)
  | fn {f : FuncId} {a b c d : List V} (la : a.length = c.length) (ha : ∀ (i : Nat) (v w : V), a[i]? = some v → c[i]? = some w → Ca vs v w) (lb : b.length = d.length) (hb : ∀ (i : Nat) (v w : V), b[i]? = some v → d[i]? = some w → Ca vs v w) : Ca vs (.fn f a b) (.fn f c d)
def mview (vs : Vw) (m : M) : M := ⟨fun k => match vs[k]? with
  | some (some (b, o)) => (match m b with
    | some (r, s) => some (r, s.1 + o, s.2)
    | none => none)
  | _ => none, m.fz⟩
theorem mview_at {vs : Vw} {m : M} {k : Nat} : mview vs m k = match vs[k]? with
  | some (some (b, o)) => (match m b with
    | some (r, s) => some (r, s.1 + o, s.2)
    | none => none)
  | _ => none := rfl
theorem Ca.vr {vs : Vw} {m : M} {v d : V} (h : Ca vs v d) : ∀ {x : Value}, VR m v x → VR (mview vs m) d x := by
  induction h with
  | bare hb => intro x hv; exact VR.of_bare0 (m := mview vs m) (m' := m) (fun _ _ h => h) hv hb
  | @sl b o k len cap ex hk =>
    intro x hv
    cases hv with
    | sl hm he =>
      rename_i r cap' s
      have hm' : mview vs m k = some (r, s.1 + o, s.2) := by rw [mview_at, hk]; dsimp only; rw [hm]
      exact .sl hm' he
    | sl0 hm =>
      rename_i r ad s
      have hm' : mview vs m k = some (r, s.1 + o, s.2) := by rw [mview_at, hk]; dsimp only; rw [hm]
      exact .sl0 hm'
  | @map b k hk =>
    intro x hv
    cases hv with
    | map hm =>
      rename_i r
      have hm' : mview vs m k = some (r, 0 + 0, 0) := by rw [mview_at, hk]; dsimp only; rw [hm]
      exact .map hm'
  | @ptr b o k i hk =>
    intro x hv
    cases hv with
    | ptr hm =>
      rename_i r s
      have hm' : mview vs m k = some (r, s.1 + o, s.2) := by rw [mview_at, hk]; dsimp only; rw [hm]
      rw [← Nat.add_assoc]
      exact .ptr hm'
  | lt0 h0 => intro x hv; exact VR.of_lt0 (m := m) (m' := mview vs m) (fun _ _ h => h) h0 hv
  | agg hl _ ih =>
    intro x hv
    cases hv with
    | agg l hc =>
      refine .agg (hl.symm.trans l) (fun k v x hd hx => ?_)
      obtain ⟨hk, _⟩ := List.getElem?_eq_some_iff.1 hd
      have hk' := List.getElem?_eq_getElem (hl.symm ▸ hk)
      exact ih k _ v hk' hd (hc k _ x hk' hx)
  | fn la _ lb _ iha ihb =>
    intro x hv
    cases hv with
    | fn la' ha' lb' hb' =>
      refine .fn (la.symm.trans la') (fun k v x hd hx => ?_) (lb.symm.trans lb') (fun k v x hd hx => ?_)
      · obtain ⟨hk, _⟩ := List.getElem?_eq_some_iff.1 hd
        have hk' := List.getElem?_eq_getElem (la.symm ▸ hk)
        exact iha k _ v hk' hd (ha' k _ x hk' hx)
      · obtain ⟨hk, _⟩ := List.getElem?_eq_some_iff.1 hd
        have hk' := List.getElem?_eq_getElem (lb.symm ▸ hk)
        exact ihb k _ v hk' hd (hb' k _ x hk' hx)
inductive CaL (vs : Vw) : List V → List V → Prop
  | nil : CaL vs [] []
  | cons {v d : V} {l r : List V} (h : Ca vs v d) (hs : CaL vs l r) : CaL vs (v :: l) (d :: r)
theorem CaL.vrs {vs : Vw} {m : M} : ∀ {l r : List V} {xs : List Value}, CaL vs l r → VRs m l xs → VRs (mview vs m) r xs
  | _, _, xs, .nil, hv => by
    have : xs = [] := List.eq_nil_of_length_eq_zero hv.1.symm
    subst this; exact .nil _
  | _, _, xs, .cons h hs, hv => by
    obtain ⟨x, a', rfl, h1, h2⟩ := hv.uncons
    exact (hs.vrs h2).cons (h.vr h1)
theorem CaL.agg {vs : Vw} {l r : List V} (h : CaL vs l r) : Ca vs (.agg l) (.agg r) := by
  have : l.length = r.length ∧ ∀ (i : Nat) (v d : V), l[i]? = some v → r[i]? = some d → Ca vs v d := by
    induction h with
    | nil => exact ⟨rfl, fun i v d h => by simp at h⟩
    | cons h _ ih =>
      refine ⟨by simp [ih.1], fun i v d hv hd => ?_⟩
      cases i with
      | zero => simp at hv hd; subst hv; subst hd; exact h
      | succ i => exact ih.2 i v d (by simpa using hv) (by simpa using hd)
  exact .agg this.1 this.2
theorem CaL.all {vs : Vw} {l r : List V} (h : CaL vs l r) : l.length = r.length ∧ ∀ (i : Nat) (v d : V), l[i]? = some v → r[i]? = some d → Ca vs v d := by
  induction h with
  | nil => exact ⟨rfl, fun i v d h => by simp at h⟩
  | cons h _ ih =>
    refine ⟨by simp [ih.1], fun i v d hv hd => ?_⟩
    cases i with
    | zero => simp at hv hd; subst hv; subst hd; exact h
    | succ i => exact ih.2 i v d (by simpa using hv) (by simpa using hd)
theorem CaL.fn {vs : Vw} {f : FuncId} {a b c d : List V} (h : CaL vs a c) (g : CaL vs b d) : Ca vs (.fn f a b) (.fn f c d) := .fn h.all.1 h.all.2 g.all.1 g.all.2
def ViewOk (h : H) (vs : Vw) (bs : List Blk) : Prop := vs.length ≤ bs.length ∧ ∀ (k : Nat) (b : Blk), bs[k]? = some b → ∃ l, b = .cells (ofL l 0) false none ∧ ∀ j o, vs[k]? = some (some (j, o)) →
  ∃ c wr g, h.get j = some (.cells c wr g) ∧ ∀ (i : Nat) (d : V), l[i]? = some d → one d = true ∧ ∃ v, c.get (o + i) = some v ∧ Ca vs v d
theorem ViewOk.hr {h : H} {vs : Vw} {bs : List Blk} (hv : ViewOk h vs bs) {base : Nat} {m : M} {w : World} (hr : HR base m h w) : HR w.heap.size (mview vs m) (hp bs) w where
  blk := fun i b r s hi hm => by
    rw [hp_get] at hi
    obtain ⟨l, rfl, hl⟩ := hv.2 i b hi
    rw [mview_at] at hm
    split at hm
    · rename_i j o hk
      obtain ⟨c, wr, g, hg, hc⟩ := hl j o hk
      split at hm
      · rename_i r' s' hmj
        cases hm
        obtain ⟨a, e, lo, hi', ho, h1, _⟩ := hr.blk j _ _ _ hg hmj
        refine ⟨a, e, lo, hi', ho, fun k d hd => ?_, fun sz K hK => by cases hK⟩
        rw [get_ofL, if_pos (Nat.zero_le _), Nat.sub_zero] at hd
        obtain ⟨h2, v, h3, h4⟩ := hc k d hd
        obtain ⟨_, ⟨x, hx, hvx⟩, h5⟩ := h1 _ v h3
        refine ⟨h2, ⟨x, ?_, h4.vr hvx⟩, ?_⟩
        · rw [← hx, ← Nat.add_assoc]
        · rw [Nat.add_assoc]; exact h5
      · cases hm
    · cases hm
  inj := fun i j bi bj r s s' hi hj hw => by
    rw [hp_get] at hi
    obtain ⟨l, rfl, _⟩ := hv.2 i bi hi
    cases hw
  own := fun i b r s hi hw => by
    rw [hp_get] at hi
    obtain ⟨l, rfl, _⟩ := hv.2 i b hi
    cases hw
  frz := hr.frz
  nfz := fun i b r s hi hw => by
    rw [hp_get] at hi
    obtain ⟨l, rfl, _⟩ := hv.2 i b hi
    cases hw
  rng := fun i r s hm => by
    rw [mview_at] at hm
    split at hm
    · split at hm
      · rename_i hmj; cases hm; exact hr.rng _ _ _ hmj
      · cases hm
    · cases hm
  lt := fun i b hi => by rw [hp_get] at hi; exact (List.getElem?_eq_some_iff.1 hi).1
  dom := fun i hi => by
    rw [mview_at]
    have : vs[i]? = none := List.getElem?_eq_none (Nat.le_trans hv.1 hi)
    rw [this]
inductive SlC (h : H) (l : List V) (n : Nat) : V → Prop
  | nil (h1 : l = []) (h2 : n = 0) : SlC h l n .nils
  | sl {b o cap : Nat} {ex : Bool} {c : Tr V} {w : Bool} {g : Option (Nat × Nat)} (hb : h.get b = some (.cells c w g)) (hc : ∀ i v, l[i]? = some v → c.get (o + i) = some v) : SlC h l n (.sl b o n cap ex)
inductive Sv (k n : Nat) : V → Prop
  | nil (h : n = 0) : Sv k n .nils
  | sl {cap : Nat} {ex : Bool} : Sv k n (.sl k 0 n cap ex)
def Vw1 (h : H) (l : List V) (vo : Option (Nat × Nat)) : Prop := ∀ j o, vo = some (j, o) → ∃ c wr g, h.get j = some (.cells c wr g) ∧ ∀ i v, l[i]? = some v → c.get (o + i) = some v
theorem SlC.view {h : H} {l : List V} {n : Nat} {sv : V} (hs : SlC h l n sv) (k : Nat) : ∃ vo svC, Sv k n svC ∧ (∀ vs : Vw, vs[k]? = some vo → Ca vs sv svC) ∧ Vw1 h l vo := by
  cases hs with
  | nil h1 h2 => exact ⟨none, .nils, .nil h2, fun _ _ => .bare rfl, fun j o h => by cases h⟩
  | sl hb hc => exact ⟨some (_, _), _, .sl, fun vs hk => .sl hk, fun j o h => by cases h; exact ⟨_, _, _, hb, hc⟩⟩
theorem bare0_ints {k : IntKind} {l : List Int} : ∀ v ∈ l.map (V.int k), bare0 v = true := fun v hv => by obtain ⟨x, _, rfl⟩ := List.mem_map.1 hv; rfl
theorem Sv.vlt {k n m : Nat} {v : V} (h : Sv k n v) (hk : k < m) : vlt m v = true := by
  cases h with
  | nil => rfl
  | sl => show Nat.blt k m = true; rw [Nat.blt_eq]; exact hk
theorem Sv.len {k n : Nat} {v : V} (h : Sv k n v) : (match some v with
    | some (.sl _ _ n _ _) => some (V.int .i64 n)
    | some .nils => some (.int .i64 0)
    | _ => none) = some (.int .i64 n) := by
  cases h with
  | nil h => subst h; rfl
  | sl => rfl
theorem get_ofL0 {l : List V} {o : Nat} {v : V} (h : l[o]? = some v) : (ofL l 0).get o = some v := by
  rw [get_ofL]; simp [h]
end Go.As
/- What a region asks that draws its order. -/
namespace Go.As
def updP (t : Tr V) (nt : Nat) (d : Option Nat) (v : V) (K : Tr V → Prop) : Prop := match d with
  | none => K t
  | some d => (match Nat.blt d nt with
    | true => strictT (t.set d v) K
    | false => False)
def vcD1 (P : Program) (ops : Array Oper) (o : Oper) (t t1 : Tr V) (h : H) (K : V → Tr V → Tr V → H → Prop) : Prop := match o.guard with
  | none => vcOp P o.op t1 h fun v h' => K v t t1 h'
  | some (j, want) => (match ops[j]? with
    | some oj => (match oj.dst with
      | some d => (match t1.get d with
        | some (.bool b) => (match want with
          | true => ifb b (strictT (t.set d (.bool true)) fun t => strictT (t1.set d (.bool true)) fun t1 => vcOp P o.op t1 h fun v h' => K v t t1 h') (strictT (t.set d (.bool false)) fun t => strictT (t1.set d (.bool false)) fun t1 => K (.tup []) t t1 h)
          | false => ifb b (strictT (t.set d (.bool true)) fun t => strictT (t1.set d (.bool true)) fun t1 => K (.tup []) t t1 h) (strictT (t.set d (.bool false)) fun t => strictT (t1.set d (.bool false)) fun t1 => vcOp P o.op t1 h fun v h' => K v t t1 h'))
        | some _ => K (.tup []) t t1 h
        | none => False)
      | none => False)
    | none => False)
def nle : H → H → Bool
  | ⟨_, n, _⟩, ⟨_, n', _⟩ => Nat.ble n n'
noncomputable def vcDs (P : Program) (ops : Array Oper) (bs : List Nat) (nt : Nat) (marks : List Nat) : List Nat → Tr V → H → List Tn → (Tr V → H → List Tn → Prop) → Prop
  | [], t, h, tr, K => K t h tr
  | i :: l, t, h, tr, K => (match ops[i]? with
    | none => False
    | some o => strictT (only t (looks o (compO P ops o))) fun t1 => vcD1 P ops o t t1 h fun v t t1 h' => (match nle h h' with
      | true => updP t nt o.dst v fun t' => vcDs P ops bs nt marks l t' h' (((i, bs.getD i 0, looks o (compO P ops o), compO P ops o), ⟨t1, nt, marks, h⟩, v) :: tr) K
      | false => False))
def StE (g : H → Option V) (h0 : H) (i b : Nat) (hend : H) : List Tn → Prop
  | [] => g hend = g h0
  | ((j, bj, _, c), s, _) :: l => (match c.a.cls.isL with
    | true => (match b.testBit j with | true => True | false => g s.h = g h0) ∧ (match bj.testBit i with | true => True | false => StE g h0 i b hend l)
    | false => StE g h0 i b hend l)
def stillAll (hend : H) (all : List Tn) : List Tn → Prop
  | [] => True
  | ((i, b, _, c), s, _) :: l => (match c.a with
    | .r f => (match wanted s.t c.g with
      | some true => StE (fun h => f h s.t) s.h i b hend all
      | _ => True)
    | _ => True) ∧ stillAll hend all l
noncomputable def chkD (P : Program) (ops : Array Oper) (perm bs : List Nat) : Bool :=
  let all := number 0 ops.toList (compL P ops ops.toList)
  let ord := order all ops.size 0
  (masks ops.toList [] == bs) && (ord.map (·.1) == perm) && edgesOk all && orderOk bs [] ord && covers ord all
section
variable {P : Program}
abbrev SfP (P : Program) : (Rq → Option Rs) → Prop := fun self => ∀ base kf, Sound P base kf self
theorem only_get {t : Tr V} {l : List Nat} {d : Nat} {v : V} (h : (only t l).get d = some v) : t.get d = some v := by
  rw [get_only] at h; split at h
  · exact h
  · cases h
theorem StE.still {g : H → Option V} {h0 : H} {v : V} {i b : Nat} {hend : H} (hv : g h0 = some v) : ∀ {l : List Tn}, StE g h0 i b hend l → StillP g v i b hend l
  | [], h => by have h' : g hend = g h0 := h; exact h'.trans hv
  | ((j, bj, lk, c), s, u) :: l, h => by
    have h' : (match c.a.cls.isL with
      | true => (match b.testBit j with | true => True | false => g s.h = g h0) ∧ (match bj.testBit i with | true => True | false => StE g h0 i b hend l)
      | false => StE g h0 i b hend l) := h
    show (match c.a.cls.isL with
      | true => (b.testBit j = true ∨ g s.h = some v) ∧ (bj.testBit i = true ∨ StillP g v i b hend l)
      | false => StillP g v i b hend l)
    cases hc : c.a.cls.isL with
    | true =>
      rw [hc] at h'
      dsimp only at h' ⊢
      refine ⟨?_, ?_⟩
      · cases hb : b.testBit j with
        | true => exact .inl rfl
        | false => have h1 := h'.1; rw [hb] at h1; exact .inr (h1.trans hv)
      · cases hb : bj.testBit i with
        | true => exact .inl rfl
        | false => have h1 := h'.2; rw [hb] at h1; exact .inr (StE.still hv h1)
    | false => rw [hc] at h'; exact StE.still hv h'
theorem stillAll_spec {hend : H} {all : List Tn} : ∀ {l : List Tn}, stillAll hend all l → ∀ e ∈ l, ∀ f, e.1.2.2.2.a = .r f → wanted e.2.1.t e.1.2.2.2.g = some true → f e.2.1.h e.2.1.t = some e.2.2 → StillP (fun h => f h e.2.1.t) e.2.2 e.1.1 e.1.2.1 hend all
  | [], _, e, he => by cases he
  | ((i, b, lk, c), s, v) :: l, h, e, he => by
    rcases List.mem_cons.1 he with rfl | he
    · intro f hf hw hv
      have h1 := h.1
      dsimp only at hf hw hv
      rw [hf] at h1
      dsimp only at h1
      rw [hw] at h1
      exact StE.still (g := fun h => f h s.t) hv h1
    · exact stillAll_spec h.2 e he
theorem Way.read {Sf : (Rq → Option Rs) → Prop} {nt : Nat} {marks : List Nat} {t : Tr V} {h : H} {tr : List Tn} {t2 : Tr V} {h2 : H} (hw : Way Sf nt marks t h tr t2 h2) : ∀ e ∈ tr, ∀ f, e.1.2.2.2.a = .r f → wanted e.2.1.t e.1.2.2.2.g = some true → f e.2.1.h e.2.1.t = some e.2.2 := by
  intro e he f hf hwt
  obtain ⟨pre, post, rfl⟩ := List.append_of_mem he
  obtain ⟨te, s1, self, _, _, hst, hdo, _⟩ := hw.split
  rw [hst] at hdo
  have h1 : (match wanted e.2.1.t e.1.2.2.2.g with
    | some true => act self e.1.2.2.2.a e.1.2.2.2.d ⟨e.2.1.t, nt, marks, e.2.1.h⟩
    | some false => Go.As.put e.2.1.t nt marks e.2.1.h e.1.2.2.2.d (.tup [])
    | none => none) = some (e.2.2, s1) := by
    have h2 : (⟨only te e.1.2.2.1, nt, marks, e.2.1.h⟩ : St) = ⟨e.2.1.t, nt, marks, e.2.1.h⟩ := by rw [← hst]; rw [hst]
    rw [h2] at hdo
    exact hdo
  rw [hwt, hf] at h1
  simp only [act] at h1
  cases hft : f e.2.1.h e.2.1.t with
  | none => rw [hft] at h1; cases h1
  | some u => rw [hft] at h1; rw [(put_h h1).2]
theorem vcD1_sound {ops : Array Oper} {o : Oper} {t t1 : Tr V} {h : H} {K : V → Tr V → Tr V → H → Prop} (hsub : ∀ d v, t1.get d = some v → t.get d = some v) (hv : vcD1 P ops o t t1 h K) :
    ∃ v h', K v t t1 h' ∧ ∃ self, SfP P self ∧ ∀ nt marks s', put t1 nt marks h' o.dst v = some (v, s') → doOp self (compO P ops o) ⟨t1, nt, marks, h⟩ = some (v, s') := by
  have run : ∀ g, wanted t1 g = some true → (vcOp P o.op t1 h fun v h' => K v t t1 h') → ∃ v h', K v t t1 h' ∧ ∃ self, SfP P self ∧ ∀ nt marks s', put t1 nt marks h' o.dst v = some (v, s') → doOp self ⟨g, o.dst, compOp P o.op⟩ ⟨t1, nt, marks, h⟩ = some (v, s') := by
    intro g hg hr
    obtain ⟨v, h', ⟨k, hk, hact⟩, hK⟩ := vcOp_sound hr
    refine ⟨v, h', hK, selfK k, fun base kf => selfK_sound hk base kf, fun nt marks s' hp => ?_⟩
    simp only [doOp, hg]
    rw [hact]; exact hp
  have skip : ∀ g a, wanted t1 g = some false → K (.tup []) t t1 h → ∃ v h', K v t t1 h' ∧ ∃ self, SfP P self ∧ ∀ nt marks s', put t1 nt marks h' o.dst v = some (v, s') → doOp self ⟨g, o.dst, a⟩ ⟨t1, nt, marks, h⟩ = some (v, s') := by
    intro g a hg hr
    refine ⟨.tup [], h, hr, selfK _, fun base kf => selfK_sound (.nil P) base kf, fun nt marks s' hp => ?_⟩
    simp only [doOp, hg]
    exact hp
  unfold vcD1 at hv
  unfold compO
  split at hv
  · rename_i hg
    simp only [hg]
    exact run none rfl hv
  · rename_i j want hg
    simp only [hg]
    split at hv
    · rename_i oj hj
      simp only [hj]
      split at hv
      · rename_i d hd
        simp only [hd]
        split at hv
        · rename_i b hb
          have hb' := hsub _ _ hb
          cases want <;> cases b
          · have hr := ifb_2 hv rfl
            rw [strictT_eq, strictT_eq, Tr.set_self hb, Tr.set_self hb'] at hr
            exact run _ (by simp only [wanted, hb]; rfl) hr
          · have hr := ifb_1 hv rfl
            rw [strictT_eq, strictT_eq, Tr.set_self hb, Tr.set_self hb'] at hr
            exact skip _ _ (by simp only [wanted, hb]; rfl) hr
          · have hr := ifb_2 hv rfl
            rw [strictT_eq, strictT_eq, Tr.set_self hb, Tr.set_self hb'] at hr
            exact skip _ _ (by simp only [wanted, hb]; rfl) hr
          · have hr := ifb_1 hv rfl
            rw [strictT_eq, strictT_eq, Tr.set_self hb, Tr.set_self hb'] at hr
            exact run _ (by simp only [wanted, hb]; rfl) hr
        · rename_i u hno hu
          refine skip _ _ ?_ hv
          simp only [wanted, hu]
        · exact hv.elim
      · exact hv.elim
    · exact hv.elim
theorem compO_d {ops : Array Oper} {o : Oper} {self : Rq → Option Rs} {s : St} {r : V × St} (h : doOp self (compO P ops o) s = some r) : (compO P ops o).d = o.dst := (compO_a (doOp_guard h)).2
noncomputable def dressAt (P : Program) (ops : Array Oper) (bs : List Nat) (i : Nat) : Dn := match ops[i]? with
  | some o => (i, bs.getD i 0, looks o (compO P ops o), compO P ops o)
  | none => (i, 0, [], ⟨none, none, .bad⟩)
theorem vcDs_sound {ops : Array Oper} {bs : List Nat} {nt : Nat} {marks : List Nat} : ∀ {l : List Nat} {t : Tr V} {h : H} {tr : List Tn} {K : Tr V → H → List Tn → Prop}, vcDs P ops bs nt marks l t h tr K →
    ∃ tr2 t' h', Way (SfP P) nt marks t h tr2 t' h' ∧ tr2.map (·.1) = l.map (dressAt P ops bs) ∧ K t' h' (tr2.reverse ++ tr) := by
  intro l
  induction l with
  | nil => intro t h tr K hv; exact ⟨[], t, h, .nil _ _, rfl, hv⟩
  | cons i l ih =>
    intro t h tr K hv
    unfold vcDs at hv
    split at hv
    · exact hv.elim
    · rename_i o ho
      rw [strictT_eq] at hv
      obtain ⟨v, h', hK, self, hself, hdo⟩ := vcD1_sound (fun d v hd => only_get hd) hv
      split at hK
      · rename_i hble
        have hput : ∃ s' , put (only t (looks o (compO P ops o))) nt marks h' o.dst v = some (v, s') ∧ s'.h = h' ∧ vcDs P ops bs nt marks l (after t o.dst v) h' (((i, bs.getD i 0, looks o (compO P ops o), compO P ops o), ⟨only t (looks o (compO P ops o)), nt, marks, h⟩, v) :: tr) K := by
          rw [put_eq]
          cases hd : o.dst with
          | none => rw [hd] at hK; exact ⟨_, rfl, rfl, hK⟩
          | some d =>
            rw [hd] at hK
            simp only [updP] at hK
            split at hK
            · rename_i hlt
              rw [strictT_eq] at hK
              dsimp only
              rw [if_pos (by rw [Nat.blt_eq] at hlt; exact hlt)]
              exact ⟨_, rfl, rfl, hK⟩
            · exact hK.elim
        obtain ⟨s', hp, hsh, hK'⟩ := hput
        have hdo' := hdo nt marks s' hp
        obtain ⟨tr2, t', h2, hw, hm, hK2⟩ := ih hK'
        refine ⟨((i, bs.getD i 0, looks o (compO P ops o), compO P ops o), ⟨only t (looks o (compO P ops o)), nt, marks, h⟩, v) :: tr2, t', h2, ?_, ?_, ?_⟩
        · refine Way.cons (x := (i, bs.getD i 0, looks o (compO P ops o), compO P ops o)) hself hdo' (by rw [hsh]; exact Nat.ble_eq ▸ (show Nat.ble h.n h'.n = true from hble)) ?_
          dsimp only
          rw [compO_d hdo', hsh]
          exact hw
        · simp only [List.map_cons, hm]
          congr 1
          unfold dressAt
          rw [ho]
        · simpa using hK2
      · exact hK.elim
theorem dress_map {ops : Array Oper} {bs : List Nat} : ∀ {ord : List En}, (∀ x ∈ ord, ops[x.1]? = some x.2.1 ∧ x.2.2 = compO P ops x.2.1) → dress bs ord = (ord.map (·.1)).map (dressAt P ops bs)
  | [], _ => rfl
  | (j, o, c) :: l, h => by
    obtain ⟨h1, h2⟩ := h _ List.mem_cons_self
    dsimp only at h1 h2
    simp only [dress, forceN_eq, List.map_cons]
    rw [dress_map (fun x hx => h x (List.mem_cons_of_mem _ hx))]
    congr 1
    unfold dressAt
    rw [h1, h2]
theorem chkD_spec {ops : Array Oper} {perm bs : List Nat} (h : chkD P ops perm bs = true) : compD P ops = some (perm.map (dressAt P ops bs)) := by
  unfold chkD at h
  simp only [Bool.and_eq_true, beq_iff_eq] at h
  obtain ⟨⟨⟨⟨h1, h2⟩, h3⟩, h4⟩, h5⟩ := h
  unfold compD
  simp only [h1, h3, h4, h5, Bool.and_self]
  rw [← h2, dress_map (fun x hx => ?_)]
  obtain ⟨k, g1, g2, g3⟩ := number_mem _ _ _ _ (order_mem hx)
  rw [Nat.zero_add] at g1
  rw [compL_get, g2] at g3
  refine ⟨by rw [g1]; simpa using g2, by simpa using g3.symm⟩
theorem WpC.draw (hm : P.follows .mixedOrders = true) {id : Nat} {ops : Array Oper} {s : St} {Q : Ex → St → Prop} (perm bs : List Nat) (hchk : chkD P ops perm bs = true)
    (h : vcDs P ops bs s.nt s.marks perm s.t s.h [] fun t' h' tr => stillAll h' tr.reverse tr.reverse ∧ Q .normal ⟨t', s.nt, s.marks, h'⟩) : WpC P (.region id ops true) s Q := by
  obtain ⟨t, nt, marks, hh⟩ := s
  obtain ⟨tr, t', h', hw, hl, hst, hQ⟩ := vcDs_sound h
  rw [List.append_nil, List.reverse_reverse] at hst
  have hc := chkD_spec hchk
  obtain ⟨B, hD⟩ := compD_spec hc
  rw [← hl] at hD
  refine ⟨fun w0 a w hs => ?_⟩
  obtain ⟨m, hat, hf⟩ := hs
  refine wpIn_region_any hm ?_
  have hlen : ∀ x ∈ tr, x.1.1 < ops.size := fun x hx => by
    obtain ⟨o, h1, _⟩ := hD.mem x.1 (List.mem_map_of_mem hx)
    exact (Array.getElem?_eq_some_iff.1 h1).1
  have hfl : ∀ x ∈ tr, dn (Array.replicate ops.size false) x.1.1 = false := fun x hx => by
    unfold dn
    rw [Array.getD_eq_getD_getElem?, Array.getElem?_eq_getElem (by simpa using hlen x hx)]
    simp
  have hsr0 : SR w0.heap.size m hh w.drew m hh w.drew := .refl hat.hr.drew
  obtain ⟨g1, g2, g3⟩ := seg_sound (S := dn (Array.replicate ops.size false)) hw (fun x hx _ => hfl x hx) hsr0
  refine draw_any (Sf := SfP P) (kf := 0) (fun s hs => hs _ _) (w0 := w.drew) hat.base hD rfl hw (fun e he f hf hwt => stillAll_spec hst e he f hf hwt (hw.read e he f hf hwt)) (Q := Post w0 Q)
    (fun a' m' w' hsr htr hmk' => ⟨.normal, _, hQ, rfl, Sat.step hat hf hsr.of_drew htr hmk'⟩) ops.size (Array.replicate ops.size false) a m _ (by simp) ?_ ?_ ⟨g1, hat.tr.1, ?_, hat.mks, g3⟩
  · simp
  · intro x hx hSx; rw [hfl x hx] at hSx; cases hSx
  · intro d v hd
    rw [curT_none (fun x hx _ => hfl x hx)] at hd
    exact hat.tr.2 d v hd
end
end Go.As
/- What a law's arguments are, as a memory of the machine's; and what a run of it leaves. -/
namespace Go.As
open Go.ChangeShapes Go.Deep
def flatFs (g : TypeId → Option Nat) (P : Program) : List Field → Nat → Option Nat
  | [], acc => some acc
  | f :: fs, acc => match g f.type with
    | some k => if f.offset = acc ∧ P.cellsOf f.type = k then flatFs g P fs (acc + k) else none
    | none => none
def flatI (P : Program) : Nat → TypeId → Option Nat
  | 0, _ => none
  | n + 1, t => match P.underlying t with
    | some (.int .i64) => some 1
    | some (.struct fs) => match flatFs (flatI P n) P fs.toList 0 with
      | some k => if P.cellsOf t = k then some k else none
      | none => none
    | some (.array m e) => match flatI P n e with
      | some k => if P.cellsOf e = k ∧ P.cellsOf t = m * k then some (m * k) else none
      | none => none
    | _ => none
def IsI (v : Value) : Prop := ∃ x, v = .int .i64 x ∧ InR x
section
variable {H : Type} {enc : TypeId × Value → H} {P : Program} {w : World} {base : Nat} {sp : Nat → Bool} {held : Bool}
theorem wf_InR {n : Int} (h : (Lit.int .i64 n).wf = true) : InR n := by
  simp only [Lit.wf, Bool.and_eq_true, decide_eq_true_eq] at h
  exact h
theorem flatFs_read {g : TypeId → Option Nat} {cs : List Value} : ∀ (fs : List Field) (acc tot : Nat) (xs : List (DataW H × List MemPlace)), flatFs g P fs acc = some tot → xs.length = fs.length →
    (∀ (i : Nat) (f : Field), fs[i]? = some f → ∀ k, g f.type = some k → ∃ y, xs[i]? = some y ∧ y.2 = [] ∧ ((cs.drop f.offset).take (P.cellsOf f.type)).length = k ∧ ∀ v ∈ (cs.drop f.offset).take (P.cellsOf f.type), IsI v) →
    xs.flatMap (·.2) = [] ∧ acc ≤ tot ∧ ∀ v ∈ (cs.drop acc).take (tot - acc), IsI v
  | [], acc, tot, xs, h, hl, _ => by
    simp only [flatFs, Option.some.injEq] at h
    subst h
    have : xs = [] := List.eq_nil_of_length_eq_zero hl
    subst this
    exact ⟨rfl, Nat.le_refl _, fun v hv => by simp at hv⟩
  | f :: fs, acc, tot, [], _, hl, _ => by simp at hl
  | f :: fs, acc, tot, y :: xs, h, hl, hp => by
    simp only [flatFs] at h
    split at h
    · rename_i k hk
      split at h
      · rename_i hoff
        obtain ⟨h1, h2, h3⟩ := flatFs_read fs (acc + k) tot xs h (by simpa using hl) (fun i f' hf k' hk' => by
          obtain ⟨y', g1, g2⟩ := hp (i + 1) f' (by simpa using hf) k' hk'
          exact ⟨y', by simpa using g1, g2⟩)
        obtain ⟨y', g1, g2, g3, g4⟩ := hp 0 f rfl k hk
        simp at g1
        subst g1
        refine ⟨by simp [g2, h1], by omega, fun v hv => ?_⟩
        rw [show tot - acc = k + (tot - (acc + k)) from by omega, List.take_add, List.drop_drop] at hv
        rcases List.mem_append.1 hv with hv | hv
        · exact g4 v (by rw [hoff.1, hoff.2]; exact hv)
        · exact h3 v hv
      · cases h
    · cases h
theorem flatI_read : ∀ (n : Nat) (t : TypeId) (k : Nat), flatI P n t = some k → ∀ (fuel : Nat) (cs : List Value) (d : DataW H) (ps : List MemPlace), DataW.trod enc P w base sp held fuel t cs = some (d, ps) → ps = [] ∧ cs.length = k ∧ ∀ v ∈ cs, IsI v := by
  intro n
  induction n with
  | zero => intro t k h; cases h
  | succ n ih =>
    intro t k h fuel cs d ps hd
    simp only [flatI] at h
    split at h
    · rename_i hu
      cases h
      obtain ⟨x, rfl, hx, hwf⟩ := DataW.trod_int hu hd
      cases hx
      exact ⟨rfl, rfl, fun v hv => by simp at hv; subst hv; exact ⟨x, rfl, wf_InR hwf⟩⟩
    · rename_i fs hu
      split at h
      · rename_i k' hk
        split at h
        · rename_i hc
          cases h
          obtain ⟨xs, m, _, hx, hlen, hxl, hf⟩ := DataW.trod_struct hu hd
          cases hx
          obtain ⟨h1, _, h3⟩ := flatFs_read (P := P) (cs := cs) fs.toList 0 k xs hk (by simpa using hxl) (fun i f hfi kf hkf => by
            have hi := hf i f (by simpa using hfi)
            have hlt : i < xs.length := by rw [hxl]; have := (List.getElem?_eq_some_iff.1 hfi).1; simpa using this
            rw [List.getElem?_eq_getElem hlt] at hi
            obtain ⟨g1, g2, g3⟩ := ih f.type kf hkf m _ xs[i].1 xs[i].2 hi
            exact ⟨xs[i], List.getElem?_eq_getElem hlt, g1, g2, g3⟩)
          refine ⟨h1, by omega, fun v hv => h3 v ?_⟩
          rw [List.drop_zero, Nat.sub_zero, List.take_of_length_le (by omega)]
          exact hv
        · cases h
      · cases h
    · rename_i m e hu
      split at h
      · rename_i k' hk
        split at h
        · rename_i hc
          cases h
          obtain ⟨xs, q, _, hx, hlen, hxl, hf⟩ := DataW.trod_array hu hd
          cases hx
          have part : ∀ i, i < m → ∃ y, xs[i]? = some y ∧ y.2 = [] ∧ ∀ v ∈ (cs.drop (i * k')).take k', IsI v := by
            intro i hi
            have h1 := hf i hi
            have hlt : i < xs.length := by omega
            rw [List.getElem?_eq_getElem hlt] at h1
            obtain ⟨g1, g2, g3⟩ := ih e k' hk q _ xs[i].1 xs[i].2 h1
            rw [hc.1] at g3
            exact ⟨xs[i], List.getElem?_eq_getElem hlt, g1, g3⟩
          refine ⟨?_, by omega, fun v hv => ?_⟩
          · rw [List.flatMap_eq_nil_iff]
            intro y hy
            obtain ⟨i, hi, rfl⟩ := List.getElem_of_mem hy
            obtain ⟨y', g1, g2, _⟩ := part i (by omega)
            rw [List.getElem?_eq_getElem hi] at g1
            cases g1; exact g2
          · obtain ⟨j, hj, rfl⟩ := List.getElem_of_mem hv
            have hk0 : 0 < k' := by
              rcases Nat.eq_zero_or_pos k' with h0 | h0
              · subst h0; omega
              · exact h0
            have hi : j / k' < m := by rw [Nat.div_lt_iff_lt_mul hk0]; omega
            obtain ⟨_, _, _, g3⟩ := part (j / k') hi
            refine g3 _ ?_
            have hjm : j % k' < k' := Nat.mod_lt _ hk0
            have hdm := Nat.div_add_mod j k'
            rw [List.mem_iff_getElem?]
            refine ⟨j % k', ?_⟩
            rw [List.getElem?_take, if_pos hjm, List.getElem?_drop, show j / k' * k' + j % k' = j from by rw [Nat.mul_comm]; exact hdm, List.getElem?_eq_getElem hj]
        · cases h
      · cases h
    · cases h
theorem slice_read {t e : TypeId} {fuel n k : Nat} {v : Value} {d : DataW H} {ps : List MemPlace} {b0 : Nat} (ht : P.underlying t = some (.slice e)) (hfl : flatI P n e = some k) (hk : P.cellsOf e = k)
    (h : DataW.trod enc P w 0 (fun _ => true) true fuel t [v] = some (d, ps)) (hz : w.noneFrozen ps) (hok : Cell.okWide P w .any b0 t v) :
    v = .slice none 0 0 ∨ ∃ (a : Addr) (len cap : Nat) (f : Nat → Int) (c : Array Value) (et : TypeId) (lo hi : Nat), v = .slice (some ⟨a.block, a.off, none⟩) len cap ∧ len ≤ cap ∧ len ≤ 9223372036854775807 ∧ w.heap[a.block]? = some (.cells c et (lo, hi)) ∧
      ∀ i, i < len * k → c[a.off + i]? = some (.int .i64 (f i)) ∧ InR (f i) ∧ ¬(lo ≤ a.off + i ∧ a.off + i < hi) := by
  rcases open_slice ht h with ⟨h1, _⟩ | ⟨a, len, cap, m, q, D, Pl, hcs, _, hl, hm, hmm, hx, hel⟩
  · left; cases h1; rfl
  right
  cases hcs
  cases hx
  have hok' : len ≤ cap ∧ (cap : Int) ≤ IntKind.i64.max ∧ w.has P .any b0 a e cap := by
    simp only [Cell.okWide, ht, Cell.ok] at hok
    exact hok
  obtain ⟨_, _, _, hspot, row, cells, hshape, _⟩ := hok'
  obtain ⟨blk, off, spot⟩ := a
  dsimp only at hspot
  subst hspot
  have hm' : m = cap := hmm
  subst hm'
  unfold World.shape? at hshape
  dsimp only at hshape
  split at hshape
  · rename_i c et fz hb
    obtain ⟨lo, hi⟩ := fz
    have key : ∀ i, ∃ x : Int, i < len * k → c[off + i]? = some (.int .i64 x) ∧ InR x ∧ ¬(lo ≤ off + i ∧ off + i < hi) := by
      intro i
      by_cases hi' : i < len * k
      · have hk0 : 0 < k := by
          rcases Nat.eq_zero_or_pos k with h0 | h0
          · subst h0; omega
          · exact h0
        have hq : i / k < len := by rw [Nat.div_lt_iff_lt_mul hk0]; omega
        have hjm : i % k < k := Nat.mod_lt _ hk0
        have hdm := Nat.div_add_mod i k
        obtain ⟨cs', h1, h2⟩ := hel (i / k) (by omega)
        obtain ⟨_, hlen, hg⟩ := World.cells?_some h1
        rw [hk] at hlen hg
        have h3 := hg (i % k) hjm
        rw [Go.Deep.add_add, Addr.add_plain, show i / k * k + i % k = i from by rw [Nat.mul_comm]; exact hdm] at h3
        obtain ⟨_, _, g3⟩ := flatI_read n e k hfl q cs' _ _ h2
        have hin : i % k < cs'.length := by omega
        obtain ⟨x, hx, hr⟩ := g3 cs'[i % k] (List.getElem_mem _)
        rw [List.getElem?_eq_getElem hin, hx] at h3
        refine ⟨x, fun _ => ⟨?_, hr, ?_⟩⟩
        · unfold World.cell? at h3
          dsimp only at h3
          rw [hb] at h3
          exact h3
        · have hmem : MemPlace.cell blk (off + i) ∈ MemPlace.row ⟨blk, off, none⟩ (m * P.cellsOf e) ++ (List.range m).flatMap Pl := by
            refine List.mem_append_left _ (MemPlace.mem_row.2 ⟨i, ?_, rfl⟩)
            rw [hk]
            exact Nat.lt_of_lt_of_le hi' (Nat.mul_le_mul_right k hl)
          have hfz := hz blk (off + i) hmem
          unfold World.frozen? at hfz
          dsimp only at hfz
          rw [hb] at hfz
          dsimp only at hfz
          intro hc
          rw [Bool.and_eq_false_iff] at hfz
          simp only [decide_eq_false_iff_not] at hfz
          omega
      · exact ⟨0, fun h => absurd h hi'⟩
    refine ⟨⟨blk, off, none⟩, len, m, fun i => Classical.choose (key i), c, et, lo, hi, rfl, hl, ?_, hb, fun i hi' => Classical.choose_spec (key i) hi'⟩
    have : m ≤ maxLen := hm
    unfold maxLen at this
    omega
  · cases hshape
theorem trodAll_carry {w' : World} : ∀ {ts : List TypeId} {vs : List Value} {ds : List (DataW H)} {ps : List MemPlace}, DataW.TrodAll enc P w base sp held ts vs ds ps → (∀ p ∈ ps, w.sameAt w' p) → DataW.TrodAll enc P w' base sp held ts vs ds ps
  | [], [], [], _, h, _ => h
  | _ :: _, _ :: _, _ :: _, _, ⟨p, q, ⟨n, hn⟩, h2, e⟩, hs => ⟨p, q, ⟨n, DataW.trod_carry n _ _ _ hn (fun x hx => hs x (by rw [e]; exact List.mem_append_left _ hx))⟩, trodAll_carry h2 (fun x hx => hs x (by rw [e]; exact List.mem_append_right _ hx)), e⟩
theorem sameAt_of_block {w w' : World} {p : MemPlace} (h : w'.heap[p.block]? = w.heap[p.block]?) : w.sameAt w' p := by
  cases p with
  | cell b off => show w'.cell? _ = w.cell? _; unfold World.cell?; dsimp only [MemPlace.block] at h; dsimp only; rw [h]
  | map b => exact h
theorem post_law {f : Func} {s : ChangeSpec} {apart fresh handsOn again : Bool} {W W' : World} {args : Array Value} {v : Value} {ds : List (DataW H)} {before : List MemPlace}
    (hlaid : laidOutB P = true) (hmaps : mapsRowed P = true) (hfull : ((List.range P.types.size).all fun t => match P.underlying t with | some (.slice e) => decide (0 < P.cellsOf e) | _ => true) = true)
    (hts : ∀ t ∈ f.params.toList, t < P.types.size) (hW : DataW.Whole enc P f.params.toList s.vars apart W args.toList ds [] before) (hvs : s.vars = [])
    (hres : ∀ (b : Nat) (sp : Nat → Bool) (hd : Bool), DataW.TrodAll enc P W' b sp hd f.resultTypes.toList (v.resultList f.resultTypes.size) (s.fn H (ds ++ [])).results [])
    (hargs : (s.fn H (ds ++ [])).args = ds) (hvars : (s.fn H (ds ++ [])).vars = []) (hf : Fr W W')
    (hok : ∀ (j : Nat) (t : TypeId) (r : Value), f.resultTypes[j]? = some t → (v.resultList f.resultTypes.size)[j]? = some r → Value.okWide P W' .any 0 t r) :
    s.post enc P f apart fresh handsOn again W args v W' := by
  have hW0 := hW
  obtain ⟨p, q, hA, hV, hpq, hz, hn⟩ := hW
  rw [hvs] at hV
  obtain ⟨_, rfl⟩ := trodVars_none hV
  rw [List.append_nil] at hpq
  subst hpq
  have hlt : ∀ x ∈ before, x.block < W.heap.size := fun x hx => hW0.lt x hx
  have hA' : ∀ sp : Nat → Bool, (∀ x ∈ before, sp x.block = true) → DataW.TrodAll enc P W' 0 sp true f.params.toList args.toList ds before := fun sp hsp =>
    trodAll_carry (DataW.TrodAll.respare (kids_rows hlaid hmaps) (fun t e ht hu => slices_full_of P hfull t e ht hu) hts hA hsp) (fun x hx => sameAt_of_block (hf.frame _ (hlt x hx)))
  have hA2 : ∀ sp : Nat → Bool, (∀ x ∈ before, sp x.block = true) → DataW.TrodAll enc P W' 0 sp true f.params.toList args.toList (s.fn H (ds ++ [])).args before := by rw [hargs]; exact hA'
  have hold : ∀ x ∈ before, (fun b => decide (b < W.heap.size)) x.block = true := fun x hx => by simpa using hlt x hx
  have hv' : ∀ sp : Nat → Bool, DataW.TrodVars enc P W' sp s.vars (s.fn H (ds ++ [])).vars [] := fun sp => by rw [hvs, hvars]; rfl
  refine ⟨ds, [], before, [], before, [], hW0, hres _ _ _, hA2 _ hold, hv' _, World.keptBut_mono (fun _ h => h.elim) (keptBut_of_frame hf.os hf.output hf.frame (fun _ => False)), fun _ => ?_⟩
  refine ⟨hok, _, _, ([] ++ before) ++ [], ⟨[] ++ before, [], trodAll_append (hA2 _ (fun _ _ => rfl)) (hres _ _ _), hv' _, rfl, ?_, ?_⟩, ?_⟩
  · intro b off hp
    have hin : MemPlace.cell b off ∈ before := by simpa using hp
    rw [frozen_of_frame hf.frame _ (hlt _ hin)]
    exact hz b off hin
  · intro ha
    simpa using hn ha
  · intro x hx _
    simpa using hx
theorem CallOk.walk {f : FuncId} {args : List V} {h h' : As.H} {v : V} (hc : CallOk P f args h v h') {W : World} {m : M} {xs : List Value} (hr : HR W.heap.size m h W) (hvs : VRs m args xs) :
    CallsIn Fence.wide 0 P f xs.toArray W fun e w' => ∃ m' x, e = .returned x ∧ VR m' v x ∧ Fr W w' := by
  refine CallsIn.mono (hc W.heap.size m W xs hr (Nat.le_refl _) hvs).2 ?_
  rintro e w' ⟨m', x, rfl, hs, hv⟩
  exact ⟨m', x, rfl, hv, (Fr.refl W).step hr hs⟩
def RdS (W : World) (L : List V) (n : Nat) (x : Value) : Prop := (x = .slice none 0 0 ∧ n = 0 ∧ L = []) ∨
  ∃ (blk off cap : Nat) (c : Array Value) (et : TypeId) (lo hi : Nat), x = .slice (some ⟨blk, off, none⟩) n cap ∧ W.heap[blk]? = some (.cells c et (lo, hi)) ∧
    ∀ i v, L[i]? = some v → one v = true ∧ (∃ y, c[off + i]? = some y ∧ ∀ m, VR m v y) ∧ ¬(lo ≤ off + i ∧ off + i < hi)
def PlOk (W : World) (L : List V) (mo : Option (Nat × Nat × Nat)) : Prop := ∀ r s, mo = some (r, s) → r < W.heap.size ∧ ∀ m, BR m s (W.heap[r]?) (.cells (ofL L 0) false none)
theorem RdS.mk {W : World} {L : List V} {n : Nat} {x : Value} (h : RdS W L n x) : ∃ mo, PlOk W L mo ∧ ∀ k : Nat, ∃ sv, (∀ h' : As.H, h'.get k = some (.cells (ofL L 0) false none) → SlC h' L n sv) ∧ ∀ m : M, m k = mo → VR m sv x := by
  rcases h with ⟨rfl, rfl, rfl⟩ | ⟨blk, off, cap, c, et, lo, hi, rfl, hb, hc⟩
  · exact ⟨none, (fun r s h => by cases h), fun k => ⟨.nils, fun _ _ => .nil rfl rfl, fun m _ => .nils⟩⟩
  · refine ⟨some (blk, off, 0), fun r s h => ?_, fun k => ⟨.sl k 0 n cap true, fun h' hg => .sl hg (fun i v hi => by rw [Nat.zero_add]; exact get_ofL0 hi), fun m hm => ?_⟩⟩
    · cases h
      refine ⟨(Array.getElem?_eq_some_iff.1 hb).1, fun m => ⟨c, et, lo, hi, hb, fun i v hv => ?_, fun sz K hK => by cases hK⟩⟩
      rw [get_ofL, if_pos (Nat.zero_le _), Nat.sub_zero] at hv
      obtain ⟨h1, ⟨y, h2, h3⟩, h4⟩ := hc i v hv
      exact ⟨h1, ⟨y, h2, h3 m⟩, h4⟩
    · exact .sl hm rfl
end
end Go.As
