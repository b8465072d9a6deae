/- The machine that the proof runs on, part 1 of 6: texts of my own, put together by program. No statement is proved here. -/
import GoSem.Step
import Derived.KernelRfl
import Derived.Laws.World
import Derived.Laws.Sem
import Derived.Laws.Cells
import Derived.Laws.IdiomCopy
set_option linter.unusedVariables false
set_option linter.unusedSimpArgs false
/- A machine for closed runs. It carries out the translated code on a small memory of its own, in one order of evaluation; 'none' where it does not know. Its soundness (what it says is what the program does, in whatever memory, in whatever order) stands in the files behind this one. It is written so that Lean's kernel runs it fast: what depends on the code alone is a closed term, and what is computed is computed at once. -/
namespace Go.As
inductive V where
  | bool (b : Bool)
  | int (k : IntKind) (n : Int)
  | str (s : ByteArray)
  | ptr (b o : Nat)
  | nilp
  | sl (b o len cap : Nat) (ex : Bool)
  | nils
  | map (b : Nat)
  | nilm
  | fn (f : FuncId) (first caps : List V)
  | yld (l : Nat)
  | nilf
  | agg (cs : List V)
  | tup (vs : List V)
  | rsl (ex : Bool) (sz n : Nat) (g : Nat → List V)
  | rptr (cs : List V)
  deriving Inhabited
inductive Tr (α : Type) where
  | leaf
  | node (l : Tr α) (a : Option α) (r : Tr α)
  deriving Inhabited
section tree
variable {α : Type}
def strictT {β : Type} (t : Tr α) (K : Tr α → β) : β := @Tr.casesOn α (fun _ => β) t (K .leaf) (fun l a r => K (.node l a r))
theorem strictT_eq {β : Type} (t : Tr α) (K : Tr α → β) : strictT t K = K t := by cases t <;> rfl
noncomputable def Tr.get (t : Tr α) : Nat → Option α :=
  @Tr.rec α (fun _ => Nat → Option α) (fun _ => none) (fun _ a _ gl gr n =>
    @Bool.rec (fun _ => Option α) (@Bool.rec (fun _ => Option α) (gr (Nat.sub (Nat.div n 2) 1)) (gl (Nat.div n 2)) (Nat.beq (Nat.mod n 2) 1)) a (Nat.beq n 0)) t
noncomputable def Tr.sing (x : α) (fuel : Nat) : Nat → Tr α :=
  @Nat.rec (fun _ => Nat → Tr α) (fun _ => .leaf) (fun _ ih n =>
    @Bool.rec (fun _ => Tr α) (@Bool.rec (fun _ => Tr α) (strictT (ih (Nat.sub (Nat.div n 2) 1)) fun r => .node .leaf none r) (strictT (ih (Nat.div n 2)) fun l => .node l none .leaf) (Nat.beq (Nat.mod n 2) 1)) (.node .leaf (some x) .leaf) (Nat.beq n 0)) fuel
noncomputable def Tr.set (t : Tr α) (n : Nat) (x : α) : Tr α :=
  @Tr.rec α (fun _ => Nat → Tr α) (fun n => Tr.sing x (n + 1) n) (fun l a r sl sr n =>
    @Bool.rec (fun _ => Tr α) (@Bool.rec (fun _ => Tr α) (strictT (sr (Nat.sub (Nat.div n 2) 1)) fun r' => .node l a r') (strictT (sl (Nat.div n 2)) fun l' => .node l' a r) (Nat.beq (Nat.mod n 2) 1)) (.node l (some x) r) (Nat.beq n 0)) t n
end tree
structure Lp where
  state : LoopState
  pending : Option Code
  tmps : Tr V
  nt : Nat
  params : List Nat
  assign : Code
  body : Code
  defers : Nat
inductive Blk where
  | cells (c : Tr V) (w : Bool) (g : Option (Nat × Nat))
  | map (es : List (Value × V × Nat)) (clock : Nat)
  | loop (l : Lp)
  | defd (done : Bool)
  | iter (b since : Nat) (seen : List Nat) (last : Nat)
  | iter0
  | siter (s : ByteArray) (pos : Nat)
  | dead
  deriving Inhabited
structure H where
  t : Tr Blk
  n : Nat
  low : Nat
def forceN {β : Type} (n : Nat) (K : Nat → β) : β := @Nat.casesOn (fun _ => β) n (K 0) (fun m => K (Nat.succ m))
theorem forceN_eq {β : Type} (n : Nat) (K : Nat → β) : forceN n K = K n := by cases n <;> rfl
def forceI {β : Type} (n : Int) (K : Int → β) : β := @Int.casesOn (fun _ => β) n (fun m => forceN m fun m => K (.ofNat m)) (fun m => forceN m fun m => K (.negSucc m))
theorem forceI_eq {β : Type} (n : Int) (K : Int → β) : forceI n K = K n := by cases n <;> simp [forceI, forceN_eq]
def forceB {β : Type} (b : Bool) (K : Bool → β) : β := @Bool.casesOn (fun _ => β) b (K false) (K true)
theorem forceB_eq {β : Type} (b : Bool) (K : Bool → β) : forceB b K = K b := by cases b <;> rfl
def force0 {β : Type} (v : V) (K : V → β) : β := match v with
  | .bool b => forceB b fun b => K (.bool b)
  | .int k n => forceI n fun n => K (.int k n)
  | .ptr b o => forceN b fun b => forceN o fun o => K (.ptr b o)
  | .sl b o l c e => forceN b fun b => forceN o fun o => forceN l fun l => forceN c fun c => forceB e fun e => K (.sl b o l c e)
  | .map b => forceN b fun b => K (.map b)
  | .yld b => forceN b fun b => K (.yld b)
  | v => K v
theorem force0_eq {β : Type} (v : V) (K : V → β) : force0 v K = K v := by cases v <;> simp [force0, forceB_eq, forceI_eq, forceN_eq]
noncomputable def forceL {β : Type} (f : V → (V → β) → β) (l : List V) : (List V → β) → β :=
  @List.rec V (fun _ => (List V → β) → β) (fun K => K []) (fun v _ ih K => f v fun v => ih fun vs => K (v :: vs)) l
theorem forceL_eq {β : Type} (f : V → (V → β) → β) (hf : ∀ v K, f v K = K v) (l : List V) (K : List V → β) : forceL f l K = K l := by
  induction l generalizing K with
  | nil => rfl
  | cons v l ih => show f v (fun v => forceL f l fun vs => K (v :: vs)) = _; rw [hf, ih]
noncomputable def force1 {β : Type} (v : V) (K : V → β) : β := match v with
  | .agg cs => forceL force0 cs fun cs => K (.agg cs)
  | .fn f a b => forceL force0 a fun a => forceL force0 b fun b => K (.fn f a b)
  | v => force0 v K
theorem force1_eq {β : Type} (v : V) (K : V → β) : force1 v K = K v := by
  cases v <;> simp [force1, force0_eq, forceL_eq force0 force0_eq]
noncomputable def force2 {β : Type} (v : V) (K : V → β) : β := match v with
  | .agg cs => forceL force1 cs fun cs => K (.agg cs)
  | .tup cs => forceL force1 cs fun cs => K (.tup cs)
  | v => force1 v K
theorem force2_eq {β : Type} (v : V) (K : V → β) : force2 v K = K v := by
  cases v <;> simp [force2, force1_eq, forceL_eq force1 force1_eq]
def forceH {β : Type} (h : H) (K : H → β) : β := match h with
  | ⟨t, n, l⟩ => strictT t fun t => forceN n fun n => forceN l fun l => K ⟨t, n, l⟩
theorem forceH_eq {β : Type} (h : H) (K : H → β) : forceH h K = K h := by cases h; simp [forceH, strictT_eq, forceN_eq]
noncomputable def H.get (h : H) (i : Nat) : Option Blk := match h with | ⟨t, _, _⟩ => t.get i
noncomputable def H.put (h : H) (i : Nat) (b : Blk) : H := match h with
  | ⟨t, n, l⟩ => ⟨t.set i b, n, match Nat.ble l i with | true => l | false => i⟩
noncomputable def H.new (h : H) (b : Blk) : H := match h with | ⟨t, n, l⟩ => ⟨t.set n b, n + 1, l⟩
def H.empty : H := ⟨.leaf, 0, 0⟩
def H.fresh : H → H
  | ⟨t, n, _⟩ => ⟨t, n, n⟩
def H.around : H → H → H
  | ⟨_, _, l⟩, ⟨t, n, l'⟩ => ⟨t, n, match Nat.ble l l' with | true => l | false => l'⟩
def scalarOf : Value → Option V
  | .bool b => some (.bool b)
  | .int k n => some (.int k n)
  | .string s => some (.str s)
  | .pointer none => some .nilp
  | .slice none 0 0 => some .nils
  | .map none => some .nilm
  | .nilFunc => some .nilf
  | _ => none
def mapM' {α β : Type} (f : α → Option β) : List α → Option (List β)
  | [] => some []
  | a :: l => match f a with
    | some b => match mapM' f l with
      | some bs => some (b :: bs)
      | none => none
    | none => none
def ofVal : Value → Option V
  | .agg cs => match mapM' scalarOf cs.toList with | some l => some (.agg l) | none => none
  | v => scalarOf v
def plain1 : V → Option Value
  | .bool b => some (.bool b)
  | .int k n => some (.int k n)
  | .str s => some (.string s)
  | .nilp => some (.pointer none)
  | .nils => some (.slice none 0 0)
  | .nilm => some (.map none)
  | .nilf => some .nilFunc
  | _ => none
def plain : V → Option Value
  | .agg cs => match mapM' plain1 cs with | some l => some (.agg l.toArray) | none => none
  | v => plain1 v
def pureP {α : Type} (P : Program) : Sem α → Option α
  | .pure a => some a
  | .program k => pureP P (k P)
  | _ => none
def one : V → Bool
  | .agg _ | .tup _ => false
  | _ => true
def bare0 : V → Bool
  | .bool _ | .int _ _ | .str _ | .nilp | .nils | .nilm | .nilf | .rsl _ _ _ _ | .rptr _ => true
  | _ => false
def bare1 : V → Bool
  | .agg cs => cs.all bare0
  | v => bare0 v
def bare : V → Bool
  | .tup vs => vs.all bare1
  | v => bare1 v
def strict0 : V → Bool
  | .bool _ | .int _ _ | .str _ | .nilp | .nils | .nilm | .nilf => true
  | _ => false
def strict1 : V → Bool
  | .agg cs => cs.all strict0
  | v => strict0 v
def strict : V → Bool
  | .tup vs => vs.all strict1
  | v => strict1 v
def V.cells : V → List V
  | .agg cs => cs
  | v => [v]
def sizeOf? (P : Program) (t : TypeId) : Option Nat := match P.info? t with | some i => some i.size | none => none
def zero? (P : Program) (t : TypeId) : Option V := match P.info? t with | some i => (match i.zero with | some v => ofVal v | none => none) | none => none
def isAgg? (P : Program) (t : TypeId) : Option Bool := match P.underlying t with
  | some (.struct _) | some (.array _ _) => some true
  | some _ => some false
  | none => none
def cut (l : List V) (i n : Nat) : Option (List V) :=
  let r := (l.drop i).take n
  if r.length = n then some r else none
def paste (l : List V) (i : Nat) (r : List V) : Option (List V) :=
  if i + r.length ≤ l.length then some (l.take i ++ r ++ l.drop (i + r.length)) else none
def part? (P : Program) (t : TypeId) (cs : List V) (off : Nat) : Option V :=
  match isAgg? P t, sizeOf? P t with
  | some true, some n => match cut cs off n with | some r => some (.agg r) | none => none
  | some false, some _ => cs[off]?
  | _, _ => none
noncomputable def getN (c : Tr V) (n : Nat) : Nat → Option (List V) :=
  @Nat.rec (fun _ => Nat → Option (List V)) (fun _ => some []) (fun _ ih o => match c.get o with
    | some v => (match ih (Nat.add o 1) with | some l => some (v :: l) | none => none)
    | none => none) n
noncomputable def putN (l : List V) : Tr V → Nat → Option (Tr V) :=
  @List.rec V (fun _ => Tr V → Nat → Option (Tr V)) (fun c _ => some c) (fun v _ ih c o => match c.get o with
    | some _ => strictT (c.set o v) fun c => ih c (Nat.add o 1)
    | none => none) l
noncomputable def ofL (l : List V) : Nat → Tr V :=
  @List.rec V (fun _ => Nat → Tr V) (fun _ => .leaf) (fun v _ ih o => strictT (ih (Nat.add o 1)) fun c => strictT (c.set o v) fun c => c) l
def fill? (place : Nat → Option (Nat × Nat)) (cells : List V) : List (Nat × V) → Option (List V)
  | [] => some cells
  | (i, v) :: rest =>
    match place i with
    | none => none
    | some (off, size) =>
      if v.cells.length = size ∧ v.cells.all one = true then
        match paste cells off v.cells with
        | some cs => fill? place cs rest
        | none => none
      else none
def rep (n : Nat) (z : List V) : List V := (List.replicate n z).flatten
abbrev X := Tr V → Option V
noncomputable def opX : Operand → X
  | .tmp t => fun e => e.get t
  | .const v => match ofVal v with | some v => fun _ => some v | none => fun _ => none
  | .func f => fun _ => some (.fn f [] [])
  | .global _ => fun _ => none
noncomputable def evs (l : List Operand) : Tr V → Option (List V) := fun e => mapM' (fun x => opX x e) l
noncomputable def evp (l : List (Nat × Operand)) : Tr V → Option (List (Nat × V)) := fun e => mapM' (fun p => match opX p.2 e with | some v => some (p.1, v) | none => none) l
def fieldPl (P : Program) (f : Field) : Option (Nat × Nat) := match sizeOf? P f.type with | some n => some (f.offset, n) | none => none
def places (P : Program) (t : TypeId) : Option (Nat → Option (Nat × Nat)) :=
  match P.underlying t with
  | some (.struct fs) => match mapM' (fieldPl P) fs.toList with
    | some l => some fun i => l[i]?
    | none => none
  | some (.array _ e) => match sizeOf? P e with
    | some n => some fun i => some (i * n, n)
    | none => none
  | _ => none
def ilt : Int → Int → Bool
  | .ofNat a, .ofNat b => Nat.blt a b
  | .negSucc _, .ofNat _ => true
  | .ofNat _, .negSucc _ => false
  | .negSucc a, .negSucc b => Nat.blt b a
def ieq : Int → Int → Bool
  | .ofNat a, .ofNat b => Nat.beq a b
  | .negSucc a, .negSucc b => Nat.beq a b
  | _, _ => false
def inR : Int → Bool
  | .ofNat a => Nat.ble a 9223372036854775807
  | .negSucc a => Nat.ble a 9223372036854775807
def fast (op : BinOp) (x y : Int) : Option V :=
  let n (r : Int) : Option V := forceI r fun r => (match inR r with | true => some (.int .i64 r) | false => none)
  match op with
  | .add => n (Int.add x y)
  | .sub => n (Int.sub x y)
  | .mul => n (Int.mul x y)
  | .lss => some (.bool (ilt x y))
  | .gtr => some (.bool (ilt y x))
  | .leq => some (.bool (!ilt y x))
  | .geq => some (.bool (!ilt x y))
  | .eql => some (.bool (ieq x y))
  | .neq => some (.bool (!ieq x y))
  | .quo => if ieq y 0 then none else n (Int.tdiv x y)
  | .rem => if ieq y 0 then none else n (Int.tmod x y)
  | _ => none
def slow (P : Program) (op : BinOp) (t : TypeId) (x y : Operand) (a b : V) : Option V :=
  match plain a, plain b with
  | some a', some b' => match pureP P (do eqGuard op t x y a' b'; binOp op t a' b') with
    | some v => ofVal v
    | none => none
  | _, _ => none
inductive A where
  | q (f : Tr V → Option V)
  | r (f : H → Tr V → Option V)
  | m (f : Tr V → Option (Blk × (Nat → V)))
  | w (f : H → Tr V → Option (V × H))
  | c (g : X) (as : Tr V → Option (List V))
  | bad
def pre : Nat → List V → Option (List V)
  | 0, _ => some []
  | n + 1, v :: l => (match pre n l with | some r => some (v :: r) | none => none)
  | _ + 1, [] => none
def flat (g : Nat → List V) : Nat → Nat → List V
  | 0, _ => []
  | n + 1, i => g i ++ flat g n (i + 1)
def qPick (c a b : X) : A := .q fun e => match c e with
  | some (.bool true) => a e
  | some (.bool false) => b e
  | _ => none
noncomputable def qBuild (P : Program) (t : TypeId) (ps : List (Nat × Operand)) : A := match zero? P t, places P t with
  | some z, some pl => .q fun e => match evp ps e with
    | some vs => match fill? pl z.cells vs with | some cs => some (.agg cs) | none => none
    | none => none
  | _, _ => .bad
noncomputable def rLoad (P : Program) (t : TypeId) (a : X) : A := match isAgg? P t, sizeOf? P t with
  | some true, some n => .r fun h e => match a e with
    | some (.ptr b o) => (match h.get b with
      | some (.cells c _ _) => (match getN c n o with | some l => some (.agg l) | none => none)
      | _ => none)
    | some (.rptr cs) => (match pre n cs with | some l => some (.agg l) | none => none)
    | _ => none
  | some false, some _ => .r fun h e => match a e with
    | some (.ptr b o) => (match h.get b with
      | some (.cells c _ _) => c.get o
      | _ => none)
    | some (.rptr cs) => (match cs with | v :: _ => some v | [] => none)
    | _ => none
  | _, _ => .bad
def qNil (x : X) : A := .q fun e => match x e with
  | some (.ptr b o) => some (.ptr b o)
  | some (.fn f a b) => some (.fn f a b)
  | some (.yld l) => some (.yld l)
  | some (.rptr cs) => some (.rptr cs)
  | _ => none
def forceT {β : Type} : (l : List UInt8) → (K : List UInt8 → β) → β
  | [], K => K []
  | a :: l, K => forceT l fun r => K (a :: r)
theorem forceT_eq {β : Type} : ∀ (l : List UInt8) (K : List UInt8 → β), forceT l K = K l
  | [], _ => rfl
  | a :: l, K => forceT_eq l fun r => K (a :: r)
def beqB : List UInt8 → List UInt8 → Bool
  | [], [] => true
  | a :: l, b :: r => (match Nat.beq a.toNat b.toNat with | true => beqB l r | false => false)
  | _, _ => false
def fastS (op : BinOp) : ByteArray → ByteArray → Option V
  | ⟨⟨a⟩⟩, ⟨⟨b⟩⟩ => match op with
    | .add => (match Nat.ble (a.length + b.length) 9223372036854775807 with | true => forceT (a ++ b) fun l => some (.str ⟨⟨l⟩⟩) | false => none)
    | .eql => some (.bool (beqB a b))
    | .neq => some (.bool (!beqB a b))
    | _ => none
def cutS : ByteArray → Nat → Nat → V
  | ⟨⟨a⟩⟩, l, q => forceT ((a.drop l).take (q - l)) fun r => .str ⟨⟨r⟩⟩
noncomputable def qBin (P : Program) (op : BinOp) (t : TypeId) (x y : Operand) : A := .q fun e => match opX x e, opX y e with
  | some (.int .i64 a), some (.int .i64 b) => (match fast op a b with
    | some v => some v
    | none => slow P op t x y (.int .i64 a) (.int .i64 b))
  | some (.str a), some (.str b) => (match fastS op a b with
    | some v => some v
    | none => slow P op t x y (.str a) (.str b))
  | some a, some b => slow P op t x y a b
  | _, _ => none
def qUn (op : UnOp) (P : Program) (x : X) : A := .q fun e => match x e with
  | some a => match plain1 a with
    | some a' => match pureP P (Op.unary op a') with
      | some v => ofVal v
      | none => none
    | none => none
  | none => none
def qConv (P : Program) (s d : TypeId) (x : X) : A := .q fun e => match x e with
  | some a => match plain1 a with
    | some a' => match pureP P (convert s d a') with
      | some v => ofVal v
      | none => none
    | none => none
  | none => none
noncomputable def qFunc (f : FuncId) (a b : List Operand) : A := .q fun e => match evs a e, evs b e with
  | some l, some r => some (.fn f l r)
  | _, _ => none
def bnd (x : X) (most : Nat) (e : Tr V) : Option Nat := match x e with
  | some (.int _ (.ofNat n)) => if Nat.ble n most then some n else none
  | _ => none
def sMax (mx : Option X) (cap : Nat) (ex : Bool) (e : Tr V) : Option (Nat × Bool) := match mx with
  | none => some (cap, ex)
  | some v => match bnd v cap e with | some m => some (m, true) | none => none
def sHi (hi mx : Option X) (m len : Nat) (e : Tr V) : Option Nat := match hi with
  | none => (match mx with | none => some len | some _ => none)
  | some v => bnd v m e
def sLo (lo : Option X) (q : Nat) (e : Tr V) : Option Nat := match lo with
  | none => some 0
  | some v => bnd v q e
def bounds (lo hi mx : Option X) (len cap : Nat) (ex : Bool) (e : Tr V) : Option (Nat × Nat × Nat × Bool) := match sMax mx cap ex e with
  | none => none
  | some (m, ex') => match sHi hi mx m len e with
    | none => none
    | some q => match sLo lo q e with
      | none => none
      | some l => some (l, q, m, ex')
def flagOf (hi mx : Option X) (ex : Bool) (m q : Nat) : Bool := match mx, hi with
  | some _, _ => Nat.beq m q
  | none, none => ex
  | none, some _ => false
def sliceAt (sz : Nat) (lo hi mx : Option X) (e : Tr V) : V → Option V
  | .sl b o len cap ex => (match bounds lo hi mx len cap ex e with
    | some (l, q, m, ex') => (match Nat.beq m l, ex', Nat.blt l m with
      | true, true, _ => some (.sl b o (q - l) 0 true)
      | false, _, true => some (.sl b (o + l * sz) (q - l) (m - l) ex')
      | true, false, _ => (match Nat.beq q l with
        | true => some (.sl b (o + l * sz) 0 0 false)
        | false => none)
      | _, _, _ => none)
    | none => none)
  | .nils => (match bounds lo hi mx 0 0 true e with
    | some (0, 0, 0, true) => some .nils
    | _ => none)
  | .rsl ex sz' n g => (match Nat.beq sz' sz, bounds lo hi mx n n ex e with
    | true, some (l, q, m, _) => (match Nat.ble l q, Nat.ble q m with
      | true, true => some (.rsl (flagOf hi mx ex m q) sz (q - l) fun i => g (l + i))
      | _, _ => none)
    | _, _ => none)
  | _ => none
def qSlice (P : Program) (t : TypeId) (x : X) (lo hi mx : Option X) : A := match P.underlying t with
  | some (.slice el) => (match sizeOf? P el with
    | some sz => .q fun e => match x e with | some v => sliceAt sz lo hi mx e v | none => none
    | none => .bad)
  | some .string => .q fun e => match x e, mx with
    | some (.str s), none => (match bounds lo hi none s.size s.size true e with
      | some (l, q, _, _) => some (cutS s l q)
      | none => none)
    | _, _ => none
  | some (.array n el) => (match sizeOf? P el with
    | some sz => .q fun e => match x e with
      | some (.ptr b o) => (match bounds lo hi mx n n true e with
        | some (l, q, m, true) => (match Nat.beq m l, Nat.blt l m with
          | true, _ => some (.sl b o (q - l) 0 true)
          | false, true => some (.sl b (o + l * sz) (q - l) (m - l) true)
          | _, _ => none)
        | _ => none)
      | _ => none
    | none => .bad)
  | _ => .bad
def qFieldAddr (P : Program) (t : TypeId) (x : X) (f : Nat) : A := match P.underlying t with
  | some (.struct fs) => (match fs[f]? with
    | some fl => (match sizeOf? P fl.type with
      | some (_ + 1) => .q fun e => match x e with | some (.ptr b o) => some (.ptr b (o + fl.offset)) | some (.rptr cs) => some (.rptr (cs.drop fl.offset)) | _ => none
      | _ => .bad)
    | none => .bad)
  | _ => .bad
def qField (P : Program) (t : TypeId) (x : X) (f : Nat) : A := match P.underlying t with
  | some (.struct fs) => (match fs[f]? with
    | some fl => .q fun e => match x e with | some (.agg cs) => part? P fl.type cs fl.offset | _ => none
    | none => .bad)
  | _ => .bad
def qIndexAddr (P : Program) (t : TypeId) (x i : X) : A := match P.underlying t with
  | some (.array len el) => (match sizeOf? P el with
    | some sz => .q fun e => match i e, x e with
      | some (.int _ (.ofNat n)), some (.ptr b o) => if Nat.blt n len then some (.ptr b (o + n * sz)) else none
      | some (.int _ (.ofNat n)), some (.rptr cs) => if Nat.blt n len then some (.rptr (cs.drop (n * sz))) else none
      | _, _ => none
    | none => .bad)
  | some (.slice el) => (match sizeOf? P el with
    | some sz => .q fun e => match i e, x e with
      | some (.int _ (.ofNat n)), some (.sl b o len _ _) => if Nat.blt n len then some (.ptr b (o + n * sz)) else none
      | some (.int _ (.ofNat n)), some (.rsl _ sz' len g) => if Nat.blt n len && Nat.beq sz' sz then some (.rptr (g n)) else none
      | _, _ => none
    | none => .bad)
  | _ => .bad
def qIndex (P : Program) (t : TypeId) (x i : X) : A := match P.underlying t with
  | some (.array len el) => (match sizeOf? P el with
    | some sz => .q fun e => match i e, x e with
      | some (.int _ (.ofNat n)), some (.agg cs) => if Nat.blt n len then part? P el cs (n * sz) else none
      | _, _ => none
    | none => .bad)
  | some .string => .q fun e => (match i e, x e with
    | some (.int _ (.ofNat n)), some (.str s) => (match s[n]? with | some b => some (.int .u8 (b.toNat : Nat)) | none => none)
    | _, _ => none)
  | _ => .bad
def keysOf (es : List (Value × V × Nat)) : List MapEntry := es.map fun e => { key := e.1, val := .tuple #[], born := e.2.2 }
def findAt (P : Program) (empty : Bool) (kt : TypeId) (k : Value) (es : List (Value × V × Nat)) : Option (Option Nat) :=
  match pureP P (Instr.checkKey empty 10000 kt k) with
  | some _ => (match pureP P (Instr.findKey kt k (keysOf es)) with
    | some (some (j, _)) => some (some j)
    | some none => some none
    | none => none)
  | none => none
noncomputable def rLookup (P : Program) (t : TypeId) (x i : X) (ok : Bool) : A := match P.underlying t with
  | some (.map kt et) => (match zero? P et with
    | some z => .r fun h e => match x e, i e with
      | some (.map b), some k => (match h.get b, plain k with
        | some (.map es _), some k' => (match findAt P es.isEmpty kt k' es with
          | some (some j) => (match es[j]? with
            | some en => some (if ok then .tup [en.2.1, .bool true] else en.2.1)
            | none => none)
          | some none => some (if ok then .tup [z, .bool false] else z)
          | none => none)
        | _, _ => none)
      | _, _ => none
    | none => .bad)
  | _ => .bad
def qExtract (x : X) (i : Nat) : A := .q fun e => match x e with
  | some (.tup vs) => vs[i]?
  | _ => none
noncomputable def rLen (P : Program) (t : TypeId) (x : X) : A := match P.underlying t with
  | some (.slice _) => .r fun _ e => match x e with
    | some (.sl _ _ n _ _) => some (.int .i64 n)
    | some .nils => some (.int .i64 0)
    | some (.rsl _ _ n _) => some (.int .i64 n)
    | _ => none
  | some .string => .r fun _ e => match x e with
    | some (.str s) => some (.int .i64 s.size)
    | _ => none
  | some (.map _ _) => .r fun h e => match x e with
    | some .nilm => some (.int .i64 0)
    | some (.map b) => (match h.get b with
      | some (.map es _) => some (.int .i64 es.length)
      | _ => none)
    | _ => none
  | _ => .bad
def qMax (x y : X) : A := .q fun e => match x e, y e with
  | some (.int k a), some (.int _ b) => some (.int k (match ilt a b with | true => b | false => a))
  | _, _ => none
def qMin (x y : X) : A := .q fun e => match x e, y e with
  | some (.int k a), some (.int _ b) => some (.int k (match ilt b a with | true => b | false => a))
  | _, _ => none
def qMax3 (x y z : X) : A := .q fun e => match x e, y e, z e with
  | some (.int k a), some (.int _ b), some (.int _ c) => some (.int k (match ilt (match ilt a b with | true => b | false => a) c with | true => c | false => (match ilt a b with | true => b | false => a)))
  | _, _, _ => none
def qMin3 (x y z : X) : A := .q fun e => match x e, y e, z e with
  | some (.int k a), some (.int _ b), some (.int _ c) => some (.int k (match ilt c (match ilt b a with | true => b | false => a) with | true => c | false => (match ilt b a with | true => b | false => a)))
  | _, _, _ => none
noncomputable def mAlloc (P : Program) (t : TypeId) : A := match zero? P t with
  | some z => let c := ofL z.cells 0; .m fun _ => some (.cells c true none, fun b => .ptr b 0)
  | none => .bad
noncomputable def mBox (x : X) : A := .m fun e => match x e with
  | some v => if v.cells.all one = true then some (.cells (ofL v.cells 0) true none, fun b => .ptr b 0) else none
  | none => none
noncomputable def mBuildSlice (P : Program) (t : TypeId) (len : Nat) (ps : List (Nat × Operand)) : A := match P.underlying t with
  | some (.slice el) => (match sizeOf? P el, zero? P el with
    | some sz, some z => if len * sz ≤ 2 ^ 24 ∧ z.cells.length = sz then .m fun e => match evp ps e with
        | some vs => (match fill? (fun i => some (i * sz, sz)) (rep len z.cells) vs with
          | some cs => if cs.all one = true then some (.cells (ofL cs 0) true none, fun b => .sl b 0 len len true) else none
          | none => none)
        | none => none
      else .bad
    | _, _ => .bad)
  | _ => .bad
def mMap : A := .m fun _ => some (.map [] 0, fun b => .map b)
noncomputable def mSlice (P : Program) (t : TypeId) (l c : X) : A := match P.underlying t with
  | some (.slice el) => (match P.info? el, zero? P el with
    | some i, some z => if i.bytes ≤ 2 ^ 20 ∧ z.cells.length = i.size ∧ z.cells.all one = true then .m fun e => match l e, c e with
        | some (.int _ (.ofNat l)), some (.int _ (.ofNat c)) =>
          if l ≤ c ∧ c ≤ 2 ^ 20 then some (.cells (ofL (rep c z.cells) 0) true none, fun b => .sl b 0 l c true) else none
        | _, _ => none
      else .bad
    | _, _ => .bad)
  | _ => .bad
noncomputable def wStore (P : Program) (t : TypeId) (a x : X) : A := match sizeOf? P t with
  | some n => .w fun h e => match a e, x e with
    | some (.ptr b o), some v => (match h.get b with
      | some (.cells c true g) => if v.cells.length = n ∧ v.cells.all one = true then
          (match putN v.cells c o with
          | some c' => some (.tup [], h.put b (.cells c' true g))
          | none => none)
        else none
      | _ => none)
    | _, _ => none
  | none => .bad
noncomputable def wMapUpdate (P : Program) (t : TypeId) (x k v : X) : A := match P.underlying t with
  | some (.map kt _) => .w fun h e => match x e, k e, v e with
    | some (.map b), some k, some v => (match h.get b, plain k with
      | some (.map es clock), some k' => (match findAt P false kt k' es with
        | some (some j) => (match es[j]? with
          | some en => if Instr.sameBits 10000 en.1 k' = true then some (.tup [], h.put b (.map (es.set j (k', v, en.2.2)) clock)) else none
          | none => none)
        | some none => some (.tup [], h.put b (.map (es ++ [(k', v, clock)]) (clock + 1)))
        | none => none)
      | _, _ => none)
    | _, _, _ => none
  | _ => .bad
noncomputable def wMapEntry (P : Program) (t : TypeId) (x k : X) : A := match P.underlying t with
  | some (.map kt et) => (match zero? P et with
    | some z => .w fun h e => match x e, k e with
      | some (.map b), some k => (match h.get b, plain k with
        | some (.map es clock), some k' => (match findAt P false kt k' es with
          | some (some j) => (match es[j]? with
            | some en => if Instr.sameBits 10000 en.1 k' = true then some (.tup [en.2.1, .int .i64 (Int.ofNat en.2.2)], h.put b (.map (es.set j (k', en.2.1, en.2.2)) clock)) else none
            | none => none)
          | some none => some (.tup [z, .int .i64 (Int.ofNat clock)], h.put b (.map (es ++ [(k', z, clock)]) (clock + 1)))
          | none => none)
        | _, _ => none)
      | _, _ => none
    | none => .bad)
  | _ => .bad
def stampAt (n : Int) (es : List (Value × V × Nat)) : Option Nat := es.findIdx? fun e => ieq (Int.ofNat e.2.2) n
noncomputable def wEntryStore (x s v : X) : A := .w fun h e => match x e, s e, v e with
  | some (.map b), some (.int _ n), some v => (match h.get b with
    | some (.map es clock) => (match stampAt n es with
      | some i => (match es[i]? with
        | some en => some (.tup [], h.put b (.map (es.set i (en.1, v, en.2.2)) clock))
        | none => none)
      | none => none)
    | _ => none)
  | _, _, _ => none
noncomputable def wDelete (P : Program) (t : TypeId) (x k : X) : A := match P.underlying t with
  | some (.map kt _) => .w fun h e => match x e, k e with
    | some (.map b), some k => (match h.get b, plain k with
      | some (.map es clock), some k' => (match findAt P es.isEmpty kt k' es with
        | some (some j) => some (.tup [], h.put b (.map (es.eraseIdx j) clock))
        | some none => some (.tup [], h.put b (.map es clock))
        | none => none)
      | _, _ => none)
    | _, _ => none
  | _ => .bad
noncomputable def wClear (P : Program) (t : TypeId) (x : X) : A := match P.underlying t with
  | some (.slice el) => (match zero? P el, sizeOf? P el with
    | some z, some sz => if z.cells.length = sz ∧ z.cells.all one = true then .w fun h e => match x e with
        | some .nils => some (.tup [], h)
        | some (.sl b o n _ _) => (match h.get b with
          | some (.cells c true g) => (match putN (rep n z.cells) c o with
            | some c' => some (.tup [], h.put b (.cells c' true g))
            | none => none)
          | _ => none)
        | _ => none
      else .bad
    | _, _ => .bad)
  | some (.map _ _) => .w fun h e => (match x e with
    | some .nilm => some (.tup [], h)
    | some (.map b) => (match h.get b with
      | some (.map _ clock) => some (.tup [], h.put b (.map [] clock))
      | _ => none)
    | _ => none)
  | _ => .bad
noncomputable def wCopy (P : Program) (t : TypeId) (d s : X) : A := match P.underlying t with
  | some (.slice el) => (match sizeOf? P el with
    | some sz => .w fun h e => match d e, s e with
      | some (.sl b o dn _ _), some (.sl b' o' sn _ _) => (match h.get b, h.get b' with
        | some (.cells c true g), some (.cells c' _ _) => (match getN c' (min sn dn * sz) o' with
          | some r => if r.all one = true then (match putN r c o with
              | some c2 => some (.int .i64 (min sn dn : Nat), h.put b (.cells c2 true g))
              | none => none)
            else none
          | none => none)
        | _, _ => none)
      | some (.sl b o dn _ _), some (.rsl _ sz' sn g) => (match h.get b, Nat.beq sz' sz with
        | some (.cells c true q), true => (if (flat g (min sn dn) 0).all one = true then (match putN (flat g (min sn dn) 0) c o with
              | some c2 => some (.int .i64 (min sn dn : Nat), h.put b (.cells c2 true q))
              | none => none)
            else none)
        | _, _ => none)
      | some .nils, some (.sl ..) => some (.int .i64 0, h)
      | some (.sl ..), some .nils => some (.int .i64 0, h)
      | some .nils, some .nils => some (.int .i64 0, h)
      | _, _ => none
    | none => .bad)
  | _ => .bad
noncomputable def added (sz : Nat) (h : H) : V → Option (Nat × List V)
  | .nils => some (0, [])
  | .sl b o n _ _ => (match h.get b with
    | some (.cells c _ _) => (match getN c (n * sz) o with | some r => if r.all one = true then some (n, r) else none | none => none)
    | _ => none)
  | .rsl _ sz' n g => (match Nat.beq sz' sz with
    | true => if (flat g n 0).all one = true ∧ (flat g n 0).length = n * sz then some (n, flat g n 0) else none
    | false => none)
  | _ => none
noncomputable def appendTo (sz : Nat) (h : H) (n : Nat) (r : List V) : V → Option (V × H)
  | .nils => if n = 0 then some (.nils, h) else if n ≤ 2 ^ 20 then some (.sl h.n 0 n n false, h.new (.cells (ofL r 0) true (some (sz, n * sz)))) else none
  | .sl b o len cap ex => (match h.get b with
    | some (.cells c wr g) =>
      if len + n ≤ cap then
        (match wr, putN r c (o + len * sz) with
        | true, some c' => some (.sl b o (len + n) cap ex, h.put b (.cells c' true g))
        | _, _ => none)
      else if len + n ≤ 2 ^ 20 then
        (match getN c (len * sz) o with
        | some old => if old.all one = true then
            (match ex, wr with
            | true, _ => some (.sl h.n 0 (len + n) (len + n) false, h.new (.cells (ofL (old ++ r) 0) true (some (sz, (len + n) * sz))))
            | false, true => if g = some (sz, o + len * sz) ∧ len = cap then
                some (.sl h.n 0 (len + n) (len + n) false, (h.put b .dead).new (.cells (ofL (old ++ r) 0) true (some (sz, (len + n) * sz))))
              else none
            | false, false => none)
          else none
        | none => none)
      else none
    | _ => none)
  | .rsl true sz' len g =>
    if n = 0 then some (.rsl true sz' len g, h) else
    (match Nat.beq sz' sz with
    | true => if len + n ≤ 2 ^ 20 ∧ (flat g len 0).all one = true ∧ (flat g len 0).length = len * sz then
        some (.sl h.n 0 (len + n) (len + n) false, h.new (.cells (ofL (flat g len 0 ++ r) 0) true (some (sz, (len + n) * sz))))
      else none
    | false => none)
  | _ => none
noncomputable def wAppend (P : Program) (t u : TypeId) (s x : X) : A := match P.underlying t, P.underlying u with
  | some (.slice el), some (.slice _) => (match P.info? el, zero? P el with
    | some i, some z => if i.bytes ≤ 2 ^ 20 ∧ z.cells.length = i.size then .w fun h e => match s e, x e with
        | some s, some x => (match added i.size h x with
          | some (n, r) => appendTo i.size h n r s
          | none => none)
        | _, _ => none
      else .bad
    | _, _ => .bad)
  | _, _ => .bad
def leftL (es : List (Value × V × Nat)) (seen : List Nat) : List (Value × V × Nat) := es.filter fun e => !seen.contains e.2.2
noncomputable def wRange (P : Program) (t : TypeId) (x : X) : A := match P.underlying t with
  | some .string => .w fun h e => match x e with
    | some (.str s) => some (.ptr h.n 0, h.new (.siter s 0))
    | _ => none
  | some (.map _ _) => .w fun h e => match x e with
    | some .nilm => some (.ptr h.n 0, h.new .iter0)
    | some (.map b) => (match h.get b with
      | some (.map _ clock) => some (.ptr h.n 0, h.new (.iter b clock [] clock))
      | _ => none)
    | _ => none
  | _ => .bad
noncomputable def wNext (isStr : Bool) (it : X) : A := .w fun h e => match it e with
  | some (.ptr r 0) => (match isStr, h.get r with
    | true, some (.siter s pos) => (match Nat.blt pos s.size with
      | true => (match Utf8.decode s pos with
        | (c, width) => some (.tup [.bool true, .int .i64 pos, .int .i32 c], h.put r (.siter s (pos + width))))
      | false => some (.tup [.bool false], h))
    | false, some .iter0 => some (.tup [.bool false], h)
    | false, some (.iter b since seen last) => (match h.get b with
      | some (.map es clock) => (match es.all (fun e => Nat.blt e.2.2 since), Nat.ble since clock, leftL es seen with
        | true, _, [] => some (.tup [.bool false], h)
        | true, true, [en] => (match ofVal en.1 with
          | some kv => some (.tup [.bool true, kv, en.2.1], h.put r (.iter b since (seen ++ [en.2.2]) clock))
          | none => none)
        | _, _, _ => none)
      | _ => none)
    | _, _ => none)
  | _ => none
noncomputable def rEntry (it : X) : A := .r fun h e => match it e with
  | some (.ptr r 0) => (match h.get r with
    | some (.iter b _ seen last) => (match seen.getLast?, h.get b with
      | some stamp, some (.map es clock) => (match Nat.beq clock last, es.find? (fun e => Nat.beq e.2.2 stamp) with
        | true, some en => (match ofVal en.1 with
          | some kv => some (.tup [kv, en.2.1])
          | none => none)
        | _, _ => none)
      | _, _ => none)
    | _ => none)
  | _ => none
noncomputable def compB (P : Program) (b : Builtin) (as : List Operand) (ts : List TypeId) : A := match b, as, ts with
  | .len, [x], [t] => rLen P t (opX x)
  | .max, [x, y], _ => qMax (opX x) (opX y)
  | .min, [x, y], _ => qMin (opX x) (opX y)
  | .max, [x, y, z], _ => qMax3 (opX x) (opX y) (opX z)
  | .min, [x, y, z], _ => qMin3 (opX x) (opX y) (opX z)
  | .delete, [x, k], [t, _] => wDelete P t (opX x) (opX k)
  | .clear, [x], [t] => wClear P t (opX x)
  | .copy, [d, s], [t, _] => wCopy P t (opX d) (opX s)
  | .append, [s, x], [t, u] => wAppend P t u (opX s) (opX x)
  | _, _, _ => .bad
noncomputable def compOp (P : Program) : Op → A
  | .move x => .q (opX x)
  | .assign x => .q (opX x)
  | .pick c a b => qPick (opX c) (opX a) (opX b)
  | .build t ps => qBuild P t ps.toList
  | .load t a => rLoad P t (opX a)
  | .nilCheck x => qNil (opX x)
  | .binOp op t x y _ => qBin P op t x y
  | .unOp op _ x => qUn op P (opX x)
  | .convert s d x => qConv P s d (opX x)
  | .makeFunc (.func f) a b => qFunc f a.toList b.toList
  | .slice t x lo hi mx => qSlice P t (opX x) (lo.map opX) (hi.map opX) (mx.map opX)
  | .fieldAddr t x f => qFieldAddr P t (opX x) f
  | .field t x f => qField P t (opX x) f
  | .indexAddr t x i => qIndexAddr P t (opX x) (opX i)
  | .index t x i => qIndex P t (opX x) (opX i)
  | .lookup t x i ok => rLookup P t (opX x) (opX i) ok
  | .extract x i => qExtract (opX x) i
  | .alloc t => mAlloc P t
  | .box _ x => mBox (opX x)
  | .buildSlice t n ps => mBuildSlice P t n ps.toList
  | .makeMap _ none => mMap
  | .makeSlice t l c => mSlice P t (opX l) (opX c)
  | .store t a x => wStore P t (opX a) (opX x)
  | .mapUpdate t x k v => wMapUpdate P t (opX x) (opX k) (opX v)
  | .mapEntry t x k => wMapEntry P t (opX x) (opX k)
  | .entryStore _ x s v => wEntryStore (opX x) (opX s) (opX v)
  | .range t x => wRange P t (opX x)
  | .next it isStr => wNext isStr (opX it)
  | .entry it => rEntry (opX it)
  | .call c => (match c.callee with
    | .value g => .c (opX g) (evs c.args.toList)
    | .builtin b => compB P b c.args.toList c.argTypes.toList
    | .invoke _ _ => .bad)
  | _ => .bad
inductive Cls where
  | q | r | m | l
def A.cls : A → Cls
  | .q _ => .q
  | .r _ => .r
  | .m _ => .m
  | _ => .l
def Cls.isL : Cls → Bool
  | .l => true
  | _ => false
structure CO where
  g : Option (Nat × Bool)
  d : Option Nat
  a : A
noncomputable def compO (P : Program) (ops : Array Oper) (o : Oper) : CO := match o.guard with
  | none => ⟨none, o.dst, compOp P o.op⟩
  | some (j, want) => (match ops[j]? with
    | some oj => (match oj.dst with
      | some d => ⟨some (d, want), o.dst, compOp P o.op⟩
      | none => ⟨none, none, .bad⟩)
    | none => ⟨none, none, .bad⟩)
noncomputable def compL (P : Program) (ops : Array Oper) : List Oper → List CO
  | [] => []
  | o :: l => compO P ops o :: compL P ops l
def tmpsOf (o : Oper) : List Nat := o.op.operands.toList.filterMap fun | .tmp t => some t | _ => none
def looks (o : Oper) (c : CO) : List Nat := (match c.g with | some (d, _) => [d] | none => []) ++ tmpsOf o
def maskOf (acc : List Nat) (o : Oper) : Nat :=
  o.after.toList.foldl (fun s e => match Region.binds .any e with | true => Nat.lor (Nat.lor s (2 ^ e.on)) (acc.getD e.on 0) | false => s) 0
def masks : List Oper → List Nat → List Nat
  | [], acc => acc
  | o :: l, acc => forceN (maskOf acc o) fun m => masks l (acc ++ [m])
abbrev En := Nat × Oper × CO
def number : Nat → List Oper → List CO → List En
  | i, o :: l, c :: r => (i, o, c) :: number (i + 1) l r
  | _, _, _ => []
def pickOne (loud : Bool) (done : Nat) : List En → Option En
  | [] => none
  | x :: l => match !done.testBit x.1 && (loud || !x.2.2.a.cls.isL) && (x.2.1.after.toList.all fun e => !Region.binds .any e || done.testBit e.on) with
    | true => some x
    | false => pickOne loud done l
def order (all : List En) : Nat → Nat → List En
  | 0, _ => []
  | f + 1, done => match pickOne false done all with
    | some x => x :: forceN (Nat.lor done (2 ^ x.1)) fun d => order all f d
    | none => match pickOne true done all with
      | some x => x :: forceN (Nat.lor done (2 ^ x.1)) fun d => order all f d
      | none => []
def tied (a b : Oper) (ca cb : CO) : Bool :=
  (match ca.d with | some d => (looks b cb).contains d || cb.d == some d | none => false) ||
  (match cb.d with | some d => (looks a ca).contains d | none => false) ||
  (match ca.a.cls, cb.a.cls with | .l, .l => true | .l, .m => true | _, _ => false)
def pairsOk (bs : List Nat) (j : Nat) (b : Oper) (cb : CO) : List En → Bool
  | [] => true
  | (i, a, ca) :: l => !Nat.beq i j && (!tied a b ca cb || (bs.getD j 0).testBit i) && pairsOk bs j b cb l
def orderOk (bs : List Nat) : List En → List En → Bool
  | _, [] => true
  | before, x :: l => pairsOk bs x.1 x.2.1 x.2.2 before && orderOk bs (before ++ [x]) l
def edgesOk : List En → Bool
  | [] => true
  | (j, b, _) :: l => (b.after.toList.all fun e => !Region.binds .any e || Nat.blt e.on j) && edgesOk l
abbrev Dn := Nat × Nat × List Nat × CO
def dress (bs : List Nat) : List En → List Dn
  | [] => []
  | (j, o, c) :: l => forceN (bs.getD j 0) fun b => (j, b, looks o c, c) :: dress bs l
def hasNo (i : Nat) : List En → Bool
  | [] => false
  | x :: l => Nat.beq x.1 i || hasNo i l
def covers (ord : List En) : List En → Bool
  | [] => true
  | x :: l => hasNo x.1 ord && covers ord l
noncomputable def compD (P : Program) (ops : Array Oper) : Option (List Dn) :=
  let all := number 0 ops.toList (compL P ops ops.toList)
  let bs := masks ops.toList []
  let ord := order all ops.size 0
  match edgesOk all && orderOk bs [] ord && covers ord all with
  | true => some (dress bs ord)
  | false => none
def eq0 : V → V → Bool
  | .bool a, .bool b => a == b
  | .int j a, .int k b => j == k && ieq a b
  | .ptr a b, .ptr c d => Nat.beq a c && Nat.beq b d
  | .sl a b c d e, .sl a' b' c' d' e' => Nat.beq a a' && Nat.beq b b' && Nat.beq c c' && Nat.beq d d' && e == e'
  | .map a, .map b => Nat.beq a b
  | .yld a, .yld b => Nat.beq a b
  | .str ⟨⟨a⟩⟩, .str ⟨⟨b⟩⟩ => beqB a b
  | .nilp, .nilp | .nils, .nils | .nilm, .nilm | .nilf, .nilf => true
  | _, _ => false
def eqL (f : V → V → Bool) : List V → List V → Bool
  | [], [] => true
  | a :: l, b :: r => f a b && eqL f l r
  | _, _ => false
def eq1 : V → V → Bool
  | .fn f a b, .fn g c d => Nat.beq f g && eqL eq0 a c && eqL eq0 b d
  | a, b => eq0 a b
def eqV : V → V → Bool
  | .agg a, .agg b | .tup a, .tup b => eqL eq1 a b
  | a, b => eq1 a b
structure St where
  t : Tr V
  nt : Nat
  marks : List Nat
  h : H
inductive Ex where
  | normal
  | exit (id : Nat)
  | ret
noncomputable def put (t : Tr V) (nt : Nat) (marks : List Nat) (h : H) (d : Option Nat) (v : V) : Option (V × St) :=
  force2 v fun v => match d with
    | none => some (v, ⟨t, nt, marks, h⟩)
    | some d => match Nat.blt d nt with
      | true => strictT (t.set d v) fun t => some (v, ⟨t, nt, marks, h⟩)
      | false => none
noncomputable def wanted (t : Tr V) : Option (Nat × Bool) → Option Bool
  | none => some true
  | some (d, want) => match t.get d with
    | some (.bool b) => some (b == want)
    | some _ => some false
    | none => none
inductive Rq where
  | code (ro : Option Nat) (c : Code) (s : St)
  | call (f : FuncId) (args : List V) (h : H)
  | yld (l : Nat) (args : List V) (h : H)
inductive Rs where
  | out (x : Ex) (s : St)
  | val (v : V) (h : H)
noncomputable def act (self : Rq → Option Rs) (a : A) (d : Option Nat) : St → Option (V × St)
  | ⟨t, nt, marks, h⟩ => match a with
    | .q f => (match f t with | some v => put t nt marks h d v | none => none)
    | .r f => (match f h t with | some v => put t nt marks h d v | none => none)
    | .m f => (match f t with
      | some (b, g) => forceH (h.new b) fun h' => put t nt marks h' d (g h.n)
      | none => none)
    | .w f => (match f h t with | some (v, h') => forceH h' fun h' => put t nt marks h' d v | none => none)
    | .c g as => (match g t, as t with
      | some (.fn f first caps), some as => (match self (.call f (first ++ as ++ caps) h) with
        | some (.val v h') => put t nt marks h' d v
        | _ => none)
      | some (.yld l), some as => (match self (.yld l as h) with
        | some (.val v h') => put t nt marks h' d v
        | _ => none)
      | _, _ => none)
    | .bad => none
noncomputable def doOp (self : Rq → Option Rs) (o : CO) (s : St) : Option (V × St) := match o, s with
  | ⟨g, d, a⟩, ⟨t, nt, marks, h⟩ => match wanted t g with
    | some true => act self a d ⟨t, nt, marks, h⟩
    | some false => put t nt marks h d (.tup [])
    | none => none
noncomputable def doOps (self : Rq → Option Rs) (l : List CO) : St → Option St :=
  @List.rec CO (fun _ => St → Option St) (fun s => some s) (fun o _ ih s => match doOp self o s with
    | some (_, s') => ih s'
    | none => none) l
noncomputable def only (t : Tr V) (l : List Nat) : Tr V :=
  @List.rec Nat (fun _ => Tr V) .leaf (fun d _ ih => match t.get d with | some v => strictT (ih.set d v) fun t => t | none => ih) l
noncomputable def upd {β : Type} (t : Tr V) (d : Option Nat) (v : V) (K : Tr V → β) : β := match d with
  | some d => strictT (t.set d v) K
  | none => K t
abbrev Tn := Dn × St × V
noncomputable def doRec (self : Rq → Option Rs) (l : List Dn) : St → Option (List Tn × St) :=
  @List.rec Dn (fun _ => St → Option (List Tn × St)) (fun s => some ([], s)) (fun x _ ih s => match x, s with
    | (i, b, lk, c), ⟨t, nt, marks, h⟩ => strictT (only t lk) fun t' => match doOp self c ⟨t', nt, marks, h⟩ with
      | some (v, s1) => (match Nat.ble h.n s1.h.n with
        | true => upd t c.d v fun t1 => (match ih ⟨t1, nt, marks, s1.h⟩ with
          | some (tr, s'') => some (((i, b, lk, c), ⟨t', nt, marks, h⟩, v) :: tr, s'')
          | none => none)
        | false => none)
      | none => none) l
def same1 (f : H → Option V) (v : V) (h : H) : Bool := match f h with | some u => eqV u v | none => false
def still (f : H → Option V) (v : V) (i b : Nat) (hend : H) : List Tn → Bool
  | [] => same1 f v hend
  | ((j, bj, _, c), s, _) :: l => match c.a.cls.isL with
    | true => (b.testBit j || same1 f v s.h) && (bj.testBit i || still f v i b hend l)
    | false => still f v i b hend l
noncomputable def steady (all : List Tn) (hend : H) : List Tn → Bool
  | [] => true
  | ((i, b, _, c), s, v) :: l =>
    (match c.a with
    | .r f => (match wanted s.t c.g with
      | some true => still (fun h => f h s.t) v i b hend all
      | _ => true)
    | _ => true) && steady all hend l
noncomputable def setAll (nt : Nat) : Tr V → List Nat → List V → Option (Tr V)
  | t, [], [] => some t
  | t, p :: ps, v :: vs => match Nat.blt p nt with
    | true => strictT (t.set p v) fun t => setAll nt t ps vs
    | false => none
  | _, _, _ => none
noncomputable def load? (P : Program) (t : TypeId) (h : H) (b o : Nat) : Option V :=
  match isAgg? P t, sizeOf? P t with
  | some true, some n => (match h.get b with
    | some (.cells c _ _) => (match getN c n o with | some l => some (.agg l) | none => none)
    | _ => none)
  | some false, some _ => (match h.get b with
    | some (.cells c _ _) => c.get o
    | _ => none)
  | _, _ => none
noncomputable def fetch (P : Program) (t : Tr V) (h : H) : ResultVar → Option V
  | .tmp i => t.get i
  | .cell a ty => match t.get a with
    | some (.ptr b o) => load? P ty h b o
    | _ => none
noncomputable def shutAll (h : H) : List Nat → Option H
  | [] => some h
  | r :: rs => match h.get r with
    | some (.defd false) => shutAll (h.put r (.defd true)) rs
    | _ => none
def one? : List V → Option V
  | [v] => some v
  | vs => some (.tup vs)
noncomputable def onRegion (P : Program) (self : Rq → Option Rs) (ops : Array Oper) (draw : Bool) (s : St) : Option Rs := match draw with
  | false => (match doOps self (compL P ops ops.toList) s with | some s' => some (.out .normal s') | none => none)
  | true => (match compD P ops with
    | some l => (match doRec self l s with
      | some (tr, s') => (match steady tr s'.h tr with | true => some (.out .normal s') | false => none)
      | none => none)
    | none => none)
noncomputable def onSeq (self : Rq → Option Rs) (ro : Option Nat) (a b : Code) (s : St) : Option Rs := match self (.code ro a s) with
  | some (.out .normal s') => self (.code ro b s')
  | r => r
noncomputable def onCond (self : Rq → Option Rs) (ro : Option Nat) (x : X) (a b : Code) (s : St) : Option Rs := match x s.t with
  | some (.bool true) => self (.code ro a s)
  | some (.bool false) => self (.code ro b s)
  | _ => none
noncomputable def onBlock (self : Rq → Option Rs) (ro : Option Nat) (id : Nat) (a : Code) (s : St) : Option Rs := match self (.code ro a s) with
  | some (.out (.exit id') s') => (match Nat.beq id' id with | true => some (.out .normal s') | false => some (.out (.exit id') s'))
  | r => r
noncomputable def onLoop (self : Rq → Option Rs) (ro : Option Nat) (a : Code) (s : St) : Option Rs := match self (.code ro a s) with
  | some (.out .normal s') => self (.code ro (.loop a) s')
  | r => r
noncomputable def enter (ro : Option Nat) (marks : List Nat) (h : H) : Option (H × Nat × List Nat) := match ro with
  | none => some (h.new (.defd false), h.n, h.n :: marks)
  | some l => match h.get l with
    | some (.loop r) => some (h, r.defers, marks)
    | _ => none
noncomputable def onRange (self : Rq → Option Rs) (ro : Option Nat) (g : X) (ps : List Nat) (assign body : Code) : St → Option Rs
  | ⟨t, nt, marks, h⟩ => match g t with
    | some (.fn f first caps) => (match enter ro marks h with
      | none => none
      | some (h1, d, marks') => (match self (.call f (first ++ [.yld h1.n] ++ caps) (h1.new (.loop { state := .ready, pending := none, tmps := t, nt, params := ps, assign, body, defers := d }))) with
        | some (.val _ h2) => (match h2.get h1.n with
          | some (.loop r) => (match r.state with
            | .busy => none
            | _ => forceH (h2.put h1.n (.loop { r with state := .exhausted })) fun h3 => (match r.pending with
              | none => some (.out .normal ⟨t, nt, marks', h3⟩)
              | some .ret => some (.out .ret ⟨t, nt, marks', h3⟩)
              | some (.exit id) => some (.out (.exit id) ⟨t, nt, marks', h3⟩)
              | some _ => none))
          | _ => none)
        | _ => none))
    | _ => none
noncomputable def onCode (P : Program) (self : Rq → Option Rs) (ro : Option Nat) (c : Code) (s : St) : Option Rs := match c with
  | .skip => some (.out .normal s)
  | .label _ => some (.out .normal s)
  | .region _ ops draw => onRegion P self ops draw s
  | .seq a b => onSeq self ro a b s
  | .cond x a b => onCond self ro (opX x) a b s
  | .block id a => onBlock self ro id a s
  | .loop a => onLoop self ro a s
  | .scope a => self (.code ro a s)
  | .exit id => some (.out (.exit id) s)
  | .ret => some (.out .ret s)
  | .rangeFunc g ps assign body => onRange self ro (opX g) ps.toList assign body s
  | _ => none
def ids0 : V → List Nat
  | .ptr b _ => [b]
  | .sl b _ _ _ _ => [b]
  | .map b => [b]
  | _ => []
def ids1 : V → List Nat
  | .agg cs => cs.flatMap ids0
  | .fn _ a c => a.flatMap ids0 ++ c.flatMap ids0
  | v => ids0 v
def ids2 : V → List Nat
  | .tup vs => vs.flatMap ids1
  | v => ids1 v
noncomputable def cellIds (t : Tr V) : List Nat → List Nat :=
  @Tr.rec V (fun _ => List Nat → List Nat) (fun l => l) (fun _ a _ x y l => x (y (match a with | some v => ids1 v ++ l | none => l))) t
noncomputable def blkIds (b : Blk) (l : List Nat) : List Nat := match b with
  | .cells c _ _ => cellIds c l
  | .map es _ => es.flatMap (fun e => ids1 e.2.1) ++ l
  | _ => l
noncomputable def reach (n : Nat) (h : H) (fuel : Nat) : List Nat → Tr Blk → Tr Blk :=
  @Nat.rec (fun _ => List Nat → Tr Blk → Tr Blk) (fun _ t => t) (fun _ ih l t => match l with
    | [] => t
    | i :: l => match Nat.blt i n, t.get i, h.get i with
      | false, none, some b => strictT (t.set i b) fun t => ih (blkIds b l) t
      | _, _, _ => ih l t) fuel
noncomputable def kept (h0 : H) (v : V) (h : H) : H := match Nat.ble h0.n h.low with
  | true => (match bare v with
    | true => h0
    | false => (match h0, h with
      | ⟨t0, n0, l0⟩, ⟨t, n, l⟩ => ⟨reach n0 ⟨t, n, l⟩ 1000 (ids2 v) t0, n, l0⟩))
  | false => h0.around h
noncomputable def leave (P : Program) (results : List ResultVar) (h0 : H) : St → Option Rs
  | ⟨t, _, marks, h⟩ => match shutAll h marks with
    | some h' => (match mapM' (fetch P t h') results with
      | some vs => (match one? vs with | some v => force2 v fun v => forceH (kept h0 v h') fun h2 => some (.val v h2) | none => none)
      | none => none)
    | none => none
noncomputable def onCall (P : Program) (self : Rq → Option Rs) (f : FuncId) (args : List V) (h : H) : Option Rs := match P.funcs[f]? with
  | none => none
  | some fn => match fn.body with
    | none => none
    | some c => match fn.name == "runtime.NumGoroutine", Nat.ble args.length fn.ntmps with
      | false, true => (match self (.code none c ⟨ofL args 0, fn.ntmps, [], h.fresh⟩) with
        | some (.out .normal s) => leave P fn.results.toList h s
        | some (.out .ret s) => leave P fn.results.toList h s
        | _ => none)
      | _, _ => none
noncomputable def endRound (l : Nat) (x : Ex) (h : H) : Option Rs := match h.get l with
  | some (.loop r) => (match x with
    | .normal => some (.val (.bool true) (h.put l (.loop { r with state := .ready, pending := none })))
    | .ret => some (.val (.bool false) (h.put l (.loop { r with state := .done, pending := some .ret })))
    | .exit id => some (.val (.bool false) (h.put l (.loop { r with state := .done, pending := some (.exit id) }))))
  | _ => none
noncomputable def onYield (self : Rq → Option Rs) (l : Nat) (args : List V) (h : H) : Option Rs := match h.get l with
  | some (.loop r) => (match r.state, setAll r.nt r.tmps r.params args with
    | .ready, some t => (match self (.code (some l) r.assign ⟨t, r.nt, [], h⟩) with
      | some (.out .normal s) => (match s with
        | ⟨t1, nt1, marks1, h1⟩ => (match h1.get l with
          | some (.loop r1) => (match r1.state with
            | .ready => (match self (.code (some l) r.body ⟨t1, nt1, marks1, h1.put l (.loop { r1 with state := .busy })⟩) with
              | some (.out x s2) => endRound l x s2.h
              | _ => none)
            | _ => none)
          | _ => none))
      | _ => none)
    | _, _ => none)
  | _ => none
abbrev Orc := FuncId → List V → Option V
noncomputable def step (P : Program) (orc : Orc) (self : Rq → Option Rs) : Rq → Option Rs
  | .code ro c s => onCode P self ro c s
  | .call f args h => (match orc f args with
    | some v => some (.val v h)
    | none => onCall P self f args h)
  | .yld l args h => onYield self l args h
end Go.As
/- Trees of numbered things: what is read behind a write. -/
namespace Go.As
variable {α : Type}
theorem Tr.get_leaf (n : Nat) : (Tr.leaf : Tr α).get n = none := rfl
theorem Tr.get_node (l : Tr α) (a : Option α) (r : Tr α) (n : Nat) :
    (Tr.node l a r).get n = if n = 0 then a else if n % 2 = 1 then l.get (n / 2) else r.get (n / 2 - 1) := by
  show @Bool.rec (fun _ => Option α) (@Bool.rec (fun _ => Option α) (r.get (n / 2 - 1)) (l.get (n / 2)) (Nat.beq (n % 2) 1)) a (Nat.beq n 0) = _
  by_cases h : n = 0
  · subst h; rfl
  · have h1 : Nat.beq n 0 = false := by cases n with | zero => exact absurd rfl h | succ n => rfl
    rw [h1, if_neg h]
    by_cases h2 : n % 2 = 1
    · rw [h2]; rfl
    · have h3 : n % 2 = 0 := by omega
      rw [h3]; rfl
theorem Tr.sing_succ (x : α) (f n : Nat) :
    Tr.sing x (f + 1) n = if n = 0 then .node .leaf (some x) .leaf else if n % 2 = 1 then .node (Tr.sing x f (n / 2)) none .leaf else .node .leaf none (Tr.sing x f (n / 2 - 1)) := by
  show @Bool.rec (fun _ => Tr α) (@Bool.rec (fun _ => Tr α) (strictT (Tr.sing x f (n / 2 - 1)) fun r => .node .leaf none r) (strictT (Tr.sing x f (n / 2)) fun l => .node l none .leaf) (Nat.beq (n % 2) 1)) (.node .leaf (some x) .leaf) (Nat.beq n 0) = _
  rw [strictT_eq, strictT_eq]
  by_cases h : n = 0
  · subst h; rfl
  · have h1 : Nat.beq n 0 = false := by cases n with | zero => exact absurd rfl h | succ n => rfl
    rw [h1, if_neg h]
    by_cases h2 : n % 2 = 1
    · rw [h2]; rfl
    · have h3 : n % 2 = 0 := by omega
      rw [h3]; rfl
theorem Tr.set_leaf (n : Nat) (x : α) : (Tr.leaf : Tr α).set n x = Tr.sing x (n + 1) n := rfl
theorem Tr.set_node (l : Tr α) (a : Option α) (r : Tr α) (n : Nat) (x : α) :
    (Tr.node l a r).set n x = if n = 0 then .node l (some x) r else if n % 2 = 1 then .node (l.set (n / 2) x) a r else .node l a (r.set (n / 2 - 1) x) := by
  show @Bool.rec (fun _ => Tr α) (@Bool.rec (fun _ => Tr α) (strictT (r.set (n / 2 - 1) x) fun r' => .node l a r') (strictT (l.set (n / 2) x) fun l' => .node l' a r) (Nat.beq (n % 2) 1)) (.node l (some x) r) (Nat.beq n 0) = _
  rw [strictT_eq, strictT_eq]
  by_cases h : n = 0
  · subst h; rfl
  · have h1 : Nat.beq n 0 = false := by cases n with | zero => exact absurd rfl h | succ n => rfl
    rw [h1, if_neg h]
    by_cases h2 : n % 2 = 1
    · rw [h2]; rfl
    · have h3 : n % 2 = 0 := by omega
      rw [h3]; rfl
theorem Tr.get_sing (x : α) (f : Nat) : ∀ n i, n < f → (Tr.sing x f n).get i = if i = n then some x else none := by
  induction f with
  | zero => intro n i h; omega
  | succ f ih =>
    intro n i h
    rw [Tr.sing_succ]
    by_cases h0 : n = 0
    · rw [if_pos h0, Tr.get_node, Tr.get_leaf, Tr.get_leaf]
      by_cases hi : i = 0
      · rw [if_pos hi, if_pos (by omega)]
      · rw [if_neg hi, ite_self, if_neg (by omega)]
    · rw [if_neg h0]
      by_cases h1 : n % 2 = 1
      · rw [if_pos h1, Tr.get_node, ih _ _ (by omega), Tr.get_leaf]
        by_cases hi : i = 0
        · rw [if_pos hi, if_neg (by omega)]
        · rw [if_neg hi]
          by_cases hi2 : i % 2 = 1
          · rw [if_pos hi2]
            by_cases he : i = n
            · rw [if_pos (by rw [he]), if_pos he]
            · rw [if_neg (by omega), if_neg he]
          · rw [if_neg hi2, if_neg (by omega)]
      · rw [if_neg h1, Tr.get_node, ih _ _ (by omega), Tr.get_leaf]
        by_cases hi : i = 0
        · rw [if_pos hi, if_neg (by omega)]
        · rw [if_neg hi]
          by_cases hi2 : i % 2 = 1
          · rw [if_pos hi2, if_neg (by omega)]
          · rw [if_neg hi2]
            by_cases he : i = n
            · rw [if_pos (by rw [he]), if_pos he]
            · rw [if_neg (by omega), if_neg he]
theorem Tr.get_set (t : Tr α) : ∀ (n : Nat) (x : α) (i : Nat), (t.set n x).get i = if i = n then some x else t.get i := by
  induction t with
  | leaf => intro n x i; rw [Tr.set_leaf, Tr.get_sing x _ _ _ (Nat.lt_succ_self n), Tr.get_leaf]
  | node l a r ihl ihr =>
    intro n x i
    rw [Tr.set_node]
    by_cases h0 : n = 0
    · rw [if_pos h0, Tr.get_node, Tr.get_node]
      by_cases hi : i = 0
      · rw [if_pos hi, if_pos (by omega)]
      · rw [if_neg hi, if_neg (by omega : ¬ i = n), if_neg hi]
    · rw [if_neg h0]
      by_cases h1 : n % 2 = 1
      · rw [if_pos h1, Tr.get_node, Tr.get_node, ihl]
        by_cases hi : i = 0
        · rw [if_pos hi, if_neg (by omega : ¬ i = n), if_pos hi]
        · rw [if_neg hi, if_neg hi]
          by_cases hi2 : i % 2 = 1
          · rw [if_pos hi2, if_pos hi2]
            by_cases he : i = n
            · rw [if_pos (by rw [he]), if_pos he]
            · rw [if_neg (by omega), if_neg he]
          · rw [if_neg hi2, if_neg hi2, if_neg (by omega : ¬ i = n)]
      · rw [if_neg h1, Tr.get_node, Tr.get_node, ihr]
        by_cases hi : i = 0
        · rw [if_pos hi, if_neg (by omega : ¬ i = n), if_pos hi]
        · rw [if_neg hi, if_neg hi]
          by_cases hi2 : i % 2 = 1
          · rw [if_pos hi2, if_pos hi2, if_neg (by omega : ¬ i = n)]
          · rw [if_neg hi2, if_neg hi2]
            by_cases he : i = n
            · rw [if_pos (by rw [he]), if_pos he]
            · rw [if_neg (by omega), if_neg he]
theorem Tr.get_set_same (t : Tr α) (n : Nat) (x : α) : (t.set n x).get n = some x := by rw [Tr.get_set, if_pos rfl]
theorem Tr.get_set_ne (t : Tr α) {n i : Nat} (x : α) (h : i ≠ n) : (t.set n x).get i = t.get i := by rw [Tr.get_set, if_neg h]
theorem getN_zero (c : Tr V) (o : Nat) : getN c 0 o = some [] := rfl
theorem getN_succ (c : Tr V) (n o : Nat) : getN c (n + 1) o = match c.get o with
    | some v => (match getN c n (o + 1) with | some l => some (v :: l) | none => none)
    | none => none := rfl
theorem getN_spec {c : Tr V} : ∀ {n o : Nat} {l : List V}, getN c n o = some l → l.length = n ∧ ∀ k v, l[k]? = some v → c.get (o + k) = some v := by
  intro n
  induction n with
  | zero => intro o l h; rw [getN_zero] at h; cases h; exact ⟨rfl, fun k v hk => by simp at hk⟩
  | succ n ih =>
    intro o l h
    rw [getN_succ] at h
    cases hc : c.get o with
    | none => rw [hc] at h; cases h
    | some v =>
      rw [hc] at h
      cases hr : getN c n (o + 1) with
      | none => rw [hr] at h; cases h
      | some r =>
        rw [hr] at h; cases h
        obtain ⟨h1, h2⟩ := ih hr
        refine ⟨by simp [h1], fun k u hk => ?_⟩
        cases k with
        | zero => simp at hk; subst hk; exact hc
        | succ k => have := h2 k u (by simpa using hk); rw [show o + (k + 1) = o + 1 + k from by omega]; exact this
theorem putN_nil (c : Tr V) (o : Nat) : putN [] c o = some c := rfl
theorem putN_cons (v : V) (l : List V) (c : Tr V) (o : Nat) : putN (v :: l) c o = match c.get o with
    | some _ => putN l (c.set o v) (o + 1)
    | none => none := by
  show (match c.get o with | some _ => strictT (c.set o v) fun c => putN l c (o + 1) | none => none) = _
  rw [strictT_eq]
theorem putN_spec {l : List V} : ∀ {c c' : Tr V} {o : Nat}, putN l c o = some c' →
    (∀ k, k < l.length → (c.get (o + k)).isSome = true) ∧ (∀ i, c'.get i = if o ≤ i ∧ i < o + l.length then l[i - o]? else c.get i) := by
  induction l with
  | nil => intro c c' o h; rw [putN_nil] at h; cases h; exact ⟨fun k hk => absurd hk (Nat.not_lt_zero k), fun i => by rw [if_neg (by simp only [List.length_nil]; omega)]⟩
  | cons v l ih =>
    intro c c' o h
    rw [putN_cons] at h
    cases hc : c.get o with
    | none => rw [hc] at h; cases h
    | some u =>
      rw [hc] at h
      obtain ⟨h1, h2⟩ := ih h
      refine ⟨fun k hk => ?_, fun i => ?_⟩
      · cases k with
        | zero => simp [hc]
        | succ k =>
          have := h1 k (by simp at hk; omega)
          rw [Tr.get_set_ne _ _ (by omega)] at this
          rw [show o + (k + 1) = o + 1 + k from by omega]; exact this
      · rw [h2 i]
        by_cases hi : i = o
        · subst hi
          rw [if_neg (by omega), Tr.get_set_same, if_pos (by simp)]
          simp
        · rw [Tr.get_set_ne _ _ hi]
          by_cases hr : o ≤ i ∧ i < o + (v :: l).length
          · rw [if_pos hr, if_pos (by simp at hr; omega)]
            rw [show i - o = (i - (o + 1)) + 1 from by omega]
            simp
          · rw [if_neg hr, if_neg (by simp at hr; omega)]
theorem ofL_nil (o : Nat) : ofL [] o = .leaf := rfl
theorem ofL_cons (v : V) (l : List V) (o : Nat) : ofL (v :: l) o = (ofL l (o + 1)).set o v := by
  show (strictT (ofL l (o + 1)) fun c => strictT (c.set o v) fun c => c) = _
  rw [strictT_eq, strictT_eq]
theorem get_ofL (l : List V) : ∀ (o i : Nat), (ofL l o).get i = if o ≤ i then l[i - o]? else none := by
  induction l with
  | nil => intro o i; rw [ofL_nil, Tr.get_leaf]; split <;> simp
  | cons v l ih =>
    intro o i
    rw [ofL_cons]
    by_cases hi : i = o
    · subst hi; rw [Tr.get_set_same, if_pos (Nat.le_refl _)]; simp
    · rw [Tr.get_set_ne _ _ hi, ih]
      by_cases hr : o ≤ i
      · rw [if_pos (by omega), if_pos hr, show i - o = (i - (o + 1)) + 1 from by omega]; simp
      · rw [if_neg (by omega), if_neg hr]
theorem mapM'_spec {β γ : Type} {f : β → Option γ} : ∀ {l : List β} {r : List γ}, mapM' f l = some r → r.length = l.length ∧ ∀ (k : Nat) (b : β), l[k]? = some b → ∃ c : γ, r[k]? = some c ∧ f b = some c := by
  intro l
  induction l with
  | nil => intro r h; simp only [mapM'] at h; cases h; exact ⟨rfl, fun k b hk => by simp at hk⟩
  | cons a l ih =>
    intro r h
    simp only [mapM'] at h
    cases ha : f a with
    | none => rw [ha] at h; cases h
    | some b =>
      rw [ha] at h
      cases hl : mapM' f l with
      | none => rw [hl] at h; cases h
      | some bs =>
        rw [hl] at h; cases h
        obtain ⟨h1, h2⟩ := ih hl
        refine ⟨by simp [h1], fun k c hk => ?_⟩
        cases k with
        | zero => simp at hk; subst hk; exact ⟨b, by simp, ha⟩
        | succ k => obtain ⟨d, hd, he⟩ := h2 k c (by simpa using hk); exact ⟨d, by simpa using hd, he⟩
end Go.As
/- How the machine's values and memory stand to the program's: every block of the machine's lies, from a cell on, in a block of the program's. -/
namespace Go.As
abbrev Pl := Nat → Option (Nat × Nat × Nat)
abbrev FA := Array Value × Nat × Nat
abbrev FZ := Nat → Option (Option FA)
def FzO (p : Option FA) (o : Option Obj) : Prop := match p with
  | some p => ∃ e, o = some (.cells p.1 e p.2)
  | none => o = some (.deferred (some []))
theorem FzO.lt {w : World} {p : Option FA} {r : Nat} (h : FzO p (w.heap[r]?)) : r < w.heap.size := by
  cases p with
  | some p => obtain ⟨e, he⟩ := h; exact (Array.getElem?_eq_some_iff.1 he).1
  | none => have he : w.heap[r]? = some (.deferred (some [])) := h; exact (Array.getElem?_eq_some_iff.1 he).1
structure M where
  pl : Pl
  fz : FZ
instance : CoeFun M fun _ => Pl := ⟨M.pl⟩
def M.no : M := ⟨fun _ => none, fun _ => none⟩
inductive FR (fz : FZ) : V → Value → Prop
  | bool (b : Bool) : FR fz (.bool b) (.bool b)
  | int (k : IntKind) (n : Int) : FR fz (.int k n) (.int k n)
  | str (s : ByteArray) : FR fz (.str s) (.string s)
  | nilp : FR fz .nilp (.pointer none)
  | nils : FR fz .nils (.slice none 0 0)
  | nilm : FR fz .nilm (.map none)
  | nilf : FR fz .nilf .nilFunc
  | rsl {ex : Bool} {sz n : Nat} {g : Nat → List V} {r q cap : Nat} {p : FA} (hf : fz r = some (some p)) (hn : n ≤ cap) (he : ex = true → cap = n) (hl : ∀ i, i < n → (g i).length = sz)
      (ho : ∀ i, i < n → ∀ (k : Nat) (v : V), (g i)[k]? = some v → one v = true ∧ (∃ x, p.1[q + i * sz + k]? = some x) ∧ ¬(p.2.1 ≤ q + i * sz + k ∧ q + i * sz + k < p.2.2))
      (hx : ∀ i, i < n → ∀ (k : Nat) (v : V) (x : Value), (g i)[k]? = some v → p.1[q + i * sz + k]? = some x → FR fz v x) : FR fz (.rsl ex sz n g) (.slice (some ⟨r, q, none⟩) n cap)
  | rsl0 {ex : Bool} {sz : Nat} {g : Nat → List V} : FR fz (.rsl ex sz 0 g) (.slice none 0 0)
  | rptr {cs : List V} {r q : Nat} {p : FA} (hf : fz r = some (some p))
      (ho : ∀ (k : Nat) (v : V), cs[k]? = some v → one v = true ∧ (∃ x, p.1[q + k]? = some x) ∧ ¬(p.2.1 ≤ q + k ∧ q + k < p.2.2))
      (hx : ∀ (k : Nat) (v : V) (x : Value), cs[k]? = some v → p.1[q + k]? = some x → FR fz v x) : FR fz (.rptr cs) (.pointer (some ⟨r, q, none⟩))
theorem FR.mono {f f' : FZ} (e : ∀ r (p : Option FA), f r = some p → f' r = some p) {v : V} {x : Value} (h : FR f v x) : FR f' v x := by
  induction h with
  | bool b => exact .bool b
  | int k n => exact .int k n
  | str s => exact .str s
  | nilp => exact .nilp
  | nils => exact .nils
  | nilm => exact .nilm
  | nilf => exact .nilf
  | rsl hf hn he hl ho _ ih => exact .rsl (e _ _ hf) hn he hl ho (fun i hi k v x hv hx => ih i hi k v x hv hx)
  | rsl0 => exact .rsl0
  | rptr hf ho _ ih => exact .rptr (e _ _ hf) ho (fun k v x hv hx => ih k v x hv hx)
inductive VR (m : M) : V → Value → Prop
  | bool (b : Bool) : VR m (.bool b) (.bool b)
  | int (k : IntKind) (n : Int) : VR m (.int k n) (.int k n)
  | str (s : ByteArray) : VR m (.str s) (.string s)
  | ptr {b o r : Nat} {s : Nat × Nat} (h : m b = some (r, s)) : VR m (.ptr b o) (.pointer (some ⟨r, s.1 + o, none⟩))
  | nilp : VR m .nilp (.pointer none)
  | sl {b o len cap : Nat} {ex : Bool} {r cap' : Nat} {s : Nat × Nat} (h : m b = some (r, s)) (he : cap' = if ex = true then cap else cap + s.2) : VR m (.sl b o len cap ex) (.slice (some ⟨r, s.1 + o, none⟩) len cap')
  | sl0 {b o r a : Nat} {ex : Bool} {s : Nat × Nat} (h : m b = some (r, s)) : VR m (.sl b o 0 0 ex) (.slice (some ⟨r, a, none⟩) 0 0)
  | nils : VR m .nils (.slice none 0 0)
  | map {b r : Nat} (h : m b = some (r, 0, 0)) : VR m (.map b) (.map (some r))
  | nilm : VR m .nilm (.map none)
  | fn {f : FuncId} {a b : List V} {a' b' : Array Value} (la : a.length = a'.size) (ha : ∀ (k : Nat) (v : V) (x : Value), a[k]? = some v → a'[k]? = some x → VR m v x)
      (lb : b.length = b'.size) (hb : ∀ (k : Nat) (v : V) (x : Value), b[k]? = some v → b'[k]? = some x → VR m v x) : VR m (.fn f a b) (.func (.func f) a' b')
  | yld {l r : Nat} (h : m l = some (r, 0, 0)) : VR m (.yld l) (.func (.yield r) #[] #[])
  | nilf : VR m .nilf .nilFunc
  | agg {cs : List V} {a : Array Value} (l : cs.length = a.size) (h : ∀ (k : Nat) (v : V) (x : Value), cs[k]? = some v → a[k]? = some x → VR m v x) : VR m (.agg cs) (.agg a)
  | tup {cs : List V} {a : Array Value} (l : cs.length = a.size) (h : ∀ (k : Nat) (v : V) (x : Value), cs[k]? = some v → a[k]? = some x → VR m v x) : VR m (.tup cs) (.tuple a)
  | rsl {ex : Bool} {sz n : Nat} {g : Nat → List V} {x : Value} (h : FR m.fz (.rsl ex sz n g) x) : VR m (.rsl ex sz n g) x
  | rptr {cs : List V} {x : Value} (h : FR m.fz (.rptr cs) x) : VR m (.rptr cs) x
theorem FR.vr {m : M} {v : V} {x : Value} (h : FR m.fz v x) : VR m v x := by
  cases h with
  | bool b => exact .bool b
  | int k n => exact .int k n
  | str s => exact .str s
  | nilp => exact .nilp
  | nils => exact .nils
  | nilm => exact .nilm
  | nilf => exact .nilf
  | rsl hf hn he hl ho hx => exact .rsl (.rsl hf hn he hl ho hx)
  | rsl0 => exact .rsl .rsl0
  | rptr hf ho hx => exact .rptr (.rptr hf ho hx)
def VRs (m : M) (l : List V) (a : List Value) : Prop := l.length = a.length ∧ ∀ (k : Nat) (v : V) (x : Value), l[k]? = some v → a[k]? = some x → VR m v x
structure Ext (m m' : M) : Prop where
  at' : ∀ (i : Nat) (p : Nat × Nat × Nat), m i = some p → m' i = some p
  fz : ∀ (r : Nat) (p : Option FA), m.fz r = some p → m'.fz r = some p
instance {m m' : M} : CoeFun (Ext m m') fun _ => ∀ (i : Nat) (p : Nat × Nat × Nat), m i = some p → m' i = some p := ⟨Ext.at'⟩
theorem Ext.refl (m : M) : Ext m m := ⟨fun _ _ h => h, fun _ _ h => h⟩
theorem Ext.trans {a b c : M} (h : Ext a b) (k : Ext b c) : Ext a c := ⟨fun i p hp => k i p (h i p hp), fun r p hp => k.fz r p (h.fz r p hp)⟩
def M.wide (m m' : M) : M := ⟨m.pl, m'.fz⟩
theorem Ext.wide {m m' : M} (e : Ext m m') : Ext m (m.wide m') := ⟨fun _ _ h => h, e.fz⟩
theorem VR.mono {m m' : M} (e : Ext m m') {v : V} {x : Value} (h : VR m v x) : VR m' v x := by
  induction h with
  | bool b => exact .bool b
  | int k n => exact .int k n
  | str s => exact .str s
  | ptr h => exact .ptr (e _ _ h)
  | nilp => exact .nilp
  | sl h he => exact .sl (e _ _ h) he
  | sl0 h => exact .sl0 (e _ _ h)
  | nils => exact .nils
  | map h => exact .map (e _ _ h)
  | nilm => exact .nilm
  | fn la _ lb _ iha ihb => exact .fn la (fun k v x hv hx => iha k v x hv hx) lb (fun k v x hv hx => ihb k v x hv hx)
  | yld h => exact .yld (e _ _ h)
  | nilf => exact .nilf
  | agg l _ ih => exact .agg l (fun k v x hv hx => ih k v x hv hx)
  | tup l _ ih => exact .tup l (fun k v x hv hx => ih k v x hv hx)
  | rsl h => exact .rsl (h.mono e.fz)
  | rptr h => exact .rptr (h.mono e.fz)
theorem VR.back {m m' : M} (e : Ext m m') {v : V} {x : Value} (h : VR m v x) : ∀ {y : Value}, VR m' v y → VR (m.wide m') v y := by
  induction h with
  | bool b => intro y hy; cases hy; exact .bool b
  | int k n => intro y hy; cases hy; exact .int k n
  | str s => intro y hy; cases hy; exact .str s
  | ptr h => intro y hy; cases hy with | ptr h' => rw [e _ _ h] at h'; cases h'; exact .ptr h
  | nilp => intro y hy; cases hy; exact .nilp
  | sl h he =>
    intro y hy
    cases hy with
    | sl h' he' => rw [e _ _ h] at h'; cases h'; exact .sl h he'
    | sl0 h' => rw [e _ _ h] at h'; cases h'; exact .sl0 h
  | sl0 h =>
    intro y hy
    cases hy with
    | sl h' he' => rw [e _ _ h] at h'; cases h'; exact .sl h he'
    | sl0 h' => rw [e _ _ h] at h'; cases h'; exact .sl0 h
  | nils => intro y hy; cases hy; exact .nils
  | map h => intro y hy; cases hy with | map h' => rw [e _ _ h] at h'; cases h'; exact .map h
  | nilm => intro y hy; cases hy; exact .nilm
  | fn la _ lb _ iha ihb =>
    intro y hy
    cases hy with
    | fn la' ha' lb' hb' =>
      refine .fn la' (fun k v x hv hx => ?_) lb' (fun k v x hv hx => ?_)
      · have hk := List.getElem?_eq_some_iff.1 hv
        obtain ⟨hk, _⟩ := hk
        exact iha k v _ hv (Array.getElem?_eq_getElem (by omega)) (ha' k v x hv hx)
      · have hk := List.getElem?_eq_some_iff.1 hv
        obtain ⟨hk, _⟩ := hk
        exact ihb k v _ hv (Array.getElem?_eq_getElem (by omega)) (hb' k v x hv hx)
  | yld h => intro y hy; cases hy with | yld h' => rw [e _ _ h] at h'; cases h'; exact .yld h
  | nilf => intro y hy; cases hy; exact .nilf
  | agg l _ ih =>
    intro y hy
    cases hy with
    | agg l' h' =>
      refine .agg l' (fun k v x hv hx => ?_)
      obtain ⟨hk, _⟩ := List.getElem?_eq_some_iff.1 hv
      exact ih k v _ hv (Array.getElem?_eq_getElem (by omega)) (h' k v x hv hx)
  | tup l _ ih =>
    intro y hy
    cases hy with
    | tup l' h' =>
      refine .tup l' (fun k v x hv hx => ?_)
      obtain ⟨hk, _⟩ := List.getElem?_eq_some_iff.1 hv
      exact ih k v _ hv (Array.getElem?_eq_getElem (by omega)) (h' k v x hv hx)
  | rsl h => intro y hy; cases hy with | rsl h' => exact .rsl h'
  | rptr h => intro y hy; cases hy with | rptr h' => exact .rptr h'
theorem VRs.mono {m m' : M} (e : Ext m m') {l : List V} {a : List Value} (h : VRs m l a) : VRs m' l a := ⟨h.1, fun k v x hv hx => (h.2 k v x hv hx).mono e⟩
theorem VRs.nil (m : M) : VRs m [] [] := ⟨rfl, fun k v x hv => by simp at hv⟩
theorem VRs.cons {m : M} {v : V} {x : Value} {l : List V} {a : List Value} (h : VR m v x) (hs : VRs m l a) : VRs m (v :: l) (x :: a) :=
  ⟨by simp [hs.1], fun k u y hu hy => by
    cases k with
    | zero => simp at hu hy; subst hu; subst hy; exact h
    | succ k => exact hs.2 k u y (by simpa using hu) (by simpa using hy)⟩
theorem VRs.uncons {m : M} {v : V} {l : List V} {a : List Value} (h : VRs m (v :: l) a) : ∃ x a', a = x :: a' ∧ VR m v x ∧ VRs m l a' := by
  cases a with
  | nil => have := h.1; simp at this
  | cons x a => exact ⟨x, a, rfl, h.2 0 v x (by simp) (by simp), ⟨by have := h.1; simpa using this, fun k u y hu hy => h.2 (k + 1) u y (by simpa using hu) (by simpa using hy)⟩⟩
theorem VRs.append {m : M} {l l' : List V} {a a' : List Value} (h : VRs m l a) (h' : VRs m l' a') : VRs m (l ++ l') (a ++ a') := by
  induction l generalizing a with
  | nil => have h0 : a = [] := List.eq_nil_of_length_eq_zero h.1.symm; subst h0; exact h'
  | cons v l ih => obtain ⟨x, a2, rfl, hv, hs⟩ := h.uncons; exact (ih hs).cons hv
theorem VRs.get {m : M} {l : List V} {a : List Value} (h : VRs m l a) {k : Nat} {v : V} (hv : l[k]? = some v) : ∃ x, a[k]? = some x ∧ VR m v x := by
  obtain ⟨hk, _⟩ := List.getElem?_eq_some_iff.1 hv
  have hk' : k < a.length := by rw [← h.1]; exact hk
  exact ⟨a[k], List.getElem?_eq_getElem hk', h.2 k v _ hv (List.getElem?_eq_getElem hk')⟩
theorem VRs.of_array {m : M} {l : List V} {a : Array Value} (hl : l.length = a.size) (h : ∀ (k : Nat) (v : V) (x : Value), l[k]? = some v → a[k]? = some x → VR m v x) : VRs m l a.toList :=
  ⟨by simpa using hl, fun k v x hv hx => h k v x hv (by simpa using hx)⟩
theorem VRs.agg {m : M} {l : List V} {a : Array Value} (h : VRs m l a.toList) : VR m (.agg l) (.agg a) := .agg (by simpa using h.1) (fun k v x hv hx => h.2 k v x hv (by simpa using hx))
theorem VRs.tup {m : M} {l : List V} {a : Array Value} (h : VRs m l a.toList) : VR m (.tup l) (.tuple a) := .tup (by simpa using h.1) (fun k v x hv hx => h.2 k v x hv (by simpa using hx))
theorem VRs.drop {m : M} {l : List V} {a : List Value} (h : VRs m l a) (n : Nat) : VRs m (l.drop n) (a.drop n) :=
  ⟨by simp [h.1], fun k v x hv hx => h.2 (n + k) v x (by simpa using hv) (by simpa using hx)⟩
theorem VRs.take {m : M} {l : List V} {a : List Value} (h : VRs m l a) (n : Nat) : VRs m (l.take n) (a.take n) := by
  refine ⟨by simp [h.1], fun k v x hv hx => ?_⟩
  rw [List.getElem?_take] at hv hx
  split at hv
  · rename_i hk; rw [if_pos hk] at hx; exact h.2 k v x hv hx
  · cases hv
def TR (m : M) (t : Tr V) (nt : Nat) (a : Array Value) : Prop := nt ≤ a.size ∧ ∀ (i : Nat) (v : V), t.get i = some v → ∃ x, a[i]? = some x ∧ VR m v x
theorem TR.mono {m m' : M} (e : Ext m m') {t : Tr V} {nt : Nat} {a : Array Value} (h : TR m t nt a) : TR m' t nt a :=
  ⟨h.1, fun i v hv => let ⟨x, hx, hr⟩ := h.2 i v hv; ⟨x, hx, hr.mono e⟩⟩
theorem TR.set {m : M} {t : Tr V} {nt : Nat} {a : Array Value} (h : TR m t nt a) {d : Nat} (hd : d < nt) {v : V} {x : Value} (hv : VR m v x) : TR m (t.set d v) nt (a.setIfInBounds d x) := by
  refine ⟨by simpa using h.1, fun i u hu => ?_⟩
  rw [Tr.get_set] at hu
  have := h.1
  by_cases hi : i = d
  · subst hi; rw [if_pos rfl] at hu; cases hu
    exact ⟨x, by rw [Array.getElem?_setIfInBounds_self_of_lt (by omega)], hv⟩
  · rw [if_neg hi] at hu
    obtain ⟨y, hy, hr⟩ := h.2 i u hu
    exact ⟨y, by rw [Array.getElem?_setIfInBounds_ne (Ne.symm hi)]; exact hy, hr⟩
def BR (m : M) (s : Nat × Nat) (o : Option Obj) : Blk → Prop
  | .cells c _ g => ∃ (a : Array Value) (e : TypeId) (lo hi : Nat), o = some (.cells a e (lo, hi)) ∧ (∀ (k : Nat) (v : V), c.get k = some v → one v = true ∧ (∃ x, a[s.1 + k]? = some x ∧ VR m v x) ∧ ¬(lo ≤ s.1 + k ∧ s.1 + k < hi)) ∧
      ∀ (sz K : Nat), g = some (sz, K) → s.1 + K + s.2 * sz ≤ a.size ∧ ∀ (k : Nat), s.1 ≤ k → k < s.1 + K + s.2 * sz → ¬(lo ≤ k ∧ k < hi)
  | .map es clock => s = (0, 0) ∧ ∃ a : Array MapEntry, o = some (.map a clock) ∧ es.length = a.size ∧ ∀ (k : Nat) (e : Value × V × Nat) (x : MapEntry), es[k]? = some e → a[k]? = some x → x.key = e.1 ∧ x.born = e.2.2 ∧ VR m e.2.1 x.val
  | .loop l => s = (0, 0) ∧ ∃ r : Loop, o = some (.loop r) ∧ r.state = l.state ∧ r.pending = l.pending ∧ r.params.toList = l.params ∧ r.assign = l.assign ∧ r.body = l.body ∧ m l.defers = some (r.defers, 0, 0) ∧ TR m l.tmps l.nt r.tmps
  | .defd d => s = (0, 0) ∧ o = some (.deferred (if d = true then none else some []))
  | .iter b since seen last => s = (0, 0) ∧ since ≤ last ∧ ∃ r : Nat, m b = some (r, 0, 0) ∧ o = some (.mapIter (some r) since seen.toArray last)
  | .iter0 => s = (0, 0) ∧ o = some (.mapIter none 0 #[] 0)
  | .siter str pos => s = (0, 0) ∧ o = some (.stringIter str pos)
  | .dead => True
theorem BR.mono {m m' : M} (e : Ext m m') {s : Nat × Nat} {o : Option Obj} {b : Blk} (h : BR m s o b) : BR m' s o b := by
  cases b with
  | cells c w g => obtain ⟨a, t, lo, hi, ho, hc, hg⟩ := h; exact ⟨a, t, lo, hi, ho, fun k v hv => let ⟨h1, ⟨x, hx, hr⟩, h2⟩ := hc k v hv; ⟨h1, ⟨x, hx, hr.mono e⟩, h2⟩, hg⟩
  | map es c => obtain ⟨hs, a, ho, hl, hc⟩ := h; exact ⟨hs, a, ho, hl, fun k en x he hx => let ⟨h1, h2, h3⟩ := hc k en x he hx; ⟨h1, h2, h3.mono e⟩⟩
  | loop l => obtain ⟨hs, r, ho, h1, h2, h3, h4, h5, h6, h7⟩ := h; exact ⟨hs, r, ho, h1, h2, h3, h4, h5, e _ _ h6, h7.mono e⟩
  | defd d => exact h
  | iter b since seen last => obtain ⟨hs, hl, r, h1, h2⟩ := h; exact ⟨hs, hl, r, e _ _ h1, h2⟩
  | iter0 => exact h
  | siter => exact h
  | dead => trivial
theorem TR.back {m m' : M} (e : Ext m m') {t : Tr V} {nt : Nat} {a a' : Array Value} (h : TR m t nt a) (h' : TR m' t nt a') : TR (m.wide m') t nt a' :=
  ⟨h'.1, fun i v hv => let ⟨_, _, hr⟩ := h.2 i v hv; let ⟨y, hy, hr'⟩ := h'.2 i v hv; ⟨y, hy, hr.back e hr'⟩⟩
theorem BR.back {m m' : M} (e : Ext m m') {s : Nat × Nat} {o o' : Option Obj} {b : Blk} (h : BR m s o b) (h' : BR m' s o' b) : BR (m.wide m') s o' b := by
  cases b with
  | cells c w g =>
    obtain ⟨a, t, lo, hi, ho, hc, _⟩ := h
    obtain ⟨a', t', lo', hi', ho', hc', hg'⟩ := h'
    exact ⟨a', t', lo', hi', ho', fun k v hv => let ⟨_, ⟨x, hx, hr⟩, _⟩ := hc k v hv; let ⟨h1, ⟨y, hy, hr'⟩, h2⟩ := hc' k v hv; ⟨h1, ⟨y, hy, hr.back e hr'⟩, h2⟩, hg'⟩
  | map es c =>
    obtain ⟨hs, a, ho, hl, hc⟩ := h
    obtain ⟨_, a', ho', hl', hc'⟩ := h'
    refine ⟨hs, a', ho', hl', fun k en x he hx => ?_⟩
    obtain ⟨h1, h2, h3⟩ := hc' k en x he hx
    obtain ⟨hk, _⟩ := List.getElem?_eq_some_iff.1 he
    obtain ⟨_, _, g3⟩ := hc k en _ he (Array.getElem?_eq_getElem (by omega))
    exact ⟨h1, h2, g3.back e h3⟩
  | loop l =>
    obtain ⟨hs, r, ho, h1, h2, h3, h4, h5, h6, h7⟩ := h
    obtain ⟨_, r', ho', g1, g2, g3, g4, g5, g6, g7⟩ := h'
    rw [e _ _ h6] at g6
    exact ⟨hs, r', ho', g1, g2, g3, g4, g5, h6.trans g6, h7.back e g7⟩
  | defd d => exact h'
  | iter b since seen last =>
    obtain ⟨hs, hl, r, h1, h2⟩ := h
    obtain ⟨_, _, r', g1, g2⟩ := h'
    rw [e _ _ h1] at g1
    cases g1
    exact ⟨hs, hl, r, h1, g2⟩
  | iter0 => exact h'
  | siter => exact h'
  | dead => trivial
def Blk.wr : Blk → Bool
  | .cells _ w _ => w
  | .dead => false
  | _ => true
def Blk.live : Blk → Bool
  | .dead => false
  | _ => true
theorem Blk.live_of_wr {b : Blk} (h : b.wr = true) : b.live = true := by cases b <;> simp_all [Blk.wr, Blk.live]
structure HR (base : Nat) (m : M) (h : H) (w : World) : Prop where
  blk : ∀ (i : Nat) (b : Blk) (r : Nat) (s : Nat × Nat), h.get i = some b → m i = some (r, s) → BR m s (w.heap[r]?) b
  inj : ∀ (i j : Nat) (bi bj : Blk) (r : Nat) (s s' : Nat × Nat), h.get i = some bi → h.get j = some bj → bi.wr = true → bj.live = true → m i = some (r, s) → m j = some (r, s') → i = j
  own : ∀ (i : Nat) (b : Blk) (r : Nat) (s : Nat × Nat), h.get i = some b → b.wr = true → m i = some (r, s) → base ≤ r
  rng : ∀ (i r : Nat) (s : Nat × Nat), m i = some (r, s) → r < w.heap.size
  lt : ∀ (i : Nat) (b : Blk), h.get i = some b → i < h.n
  dom : ∀ (i : Nat), h.n ≤ i → m i = none
  frz : ∀ (r : Nat) (p : Option FA), m.fz r = some p → FzO p (w.heap[r]?)
  nfz : ∀ (i : Nat) (b : Blk) (r : Nat) (s : Nat × Nat), h.get i = some b → b.wr = true → m i = some (r, s) → m.fz r = none
structure SR (base : Nat) (m : M) (h : H) (w : World) (m' : M) (h' : H) (w' : World) : Prop where
  ext : Ext m m'
  new : ∀ (i : Nat) (p : Nat × Nat × Nat), m' i = some p → m i = none → h.n ≤ i ∧ i < h'.n
  hr : HR base m' h' w'
  n : h.n ≤ h'.n
  os : w'.os = w.os
  tape : w'.tape = w.tape
  output : w'.output = w.output
  size : w.heap.size ≤ w'.heap.size
  frame : ∀ (r : Nat), r < w.heap.size → (∀ (i : Nat) (b : Blk) (s : Nat × Nat), h.get i = some b → b.wr = true → m i ≠ some (r, s)) → w'.heap[r]? = w.heap[r]?
  fresh : ∀ (i : Nat) (b : Blk) (r : Nat) (s : Nat × Nat), h'.get i = some b → b.wr = true → m' i = some (r, s) → w.heap.size ≤ r ∨ ∃ (j : Nat) (bj : Blk) (s' : Nat × Nat), h.get j = some bj ∧ bj.wr = true ∧ m j = some (r, s')
  low : ∀ (i : Nat), i < h.n → i < h'.low → h'.get i = h.get i
  lowle : h'.low ≤ h.low
  keep : ∀ (i : Nat), i < h.n → m i = none → h'.get i = h.get i
  fzn : ∀ (r : Nat) (p : Option FA), m'.fz r = some p → m.fz r = some p ∨ w.heap.size ≤ r ∨ ∃ (j : Nat) (bj : Blk) (s' : Nat × Nat), h.get j = some bj ∧ bj.wr = true ∧ m j = some (r, s')
theorem SR.refl {base : Nat} {m : M} {h : H} {w : World} (hr : HR base m h w) : SR base m h w m h w where
  ext := .refl m
  new := fun i p h1 h2 => by rw [h1] at h2; cases h2
  hr := hr
  n := Nat.le_refl _
  os := rfl
  tape := rfl
  output := rfl
  size := Nat.le_refl _
  frame := fun _ _ _ => rfl
  fresh := fun i b r s hb hw hm => .inr ⟨i, b, s, hb, hw, hm⟩
  low := fun _ _ _ => rfl
  lowle := Nat.le_refl _
  keep := fun _ _ _ => rfl
  fzn := fun _ _ h => .inl h
theorem SR.trans {base : Nat} {m m1 m2 : M} {h h1 h2 : H} {w w1 w2 : World} (a : SR base m h w m1 h1 w1) (b : SR base m1 h1 w1 m2 h2 w2) : SR base m h w m2 h2 w2 where
  ext := a.ext.trans b.ext
  new := fun i p hp hn => by
    cases h1i : m1 i with
    | none => have := b.new i p hp h1i; have := a.n; omega
    | some q => have := a.new i q h1i hn; have := b.n; omega
  hr := b.hr
  n := Nat.le_trans a.n b.n
  os := b.os.trans a.os
  tape := b.tape.trans a.tape
  output := b.output.trans a.output
  size := Nat.le_trans a.size b.size
  frame := fun r hr hno => by
    have h1r : w1.heap[r]? = w.heap[r]? := a.frame r hr hno
    rw [← h1r]
    refine b.frame r (Nat.lt_of_lt_of_le hr a.size) (fun i bi s hb hw hm => ?_)
    rcases a.fresh i bi r s hb hw hm with hlt | ⟨j, bj, s', hj, hwj, hmj⟩
    · omega
    · exact hno j bj s' hj hwj hmj
  fresh := fun i bi r s hb hw hm => by
    rcases b.fresh i bi r s hb hw hm with hlt | ⟨j, bj, s', hj, hwj, hmj⟩
    · left; have := a.size; omega
    · exact a.fresh j bj r s' hj hwj hmj
  low := fun i hi hl => by
    have h1 := b.low i (Nat.lt_of_lt_of_le hi a.n) hl
    rw [h1]
    exact a.low i hi (Nat.lt_of_lt_of_le hl b.lowle)
  lowle := Nat.le_trans b.lowle a.lowle
  keep := fun i hi hm => by
    have h1 := a.keep i hi hm
    have hm1 : m1 i = none := by
      cases h1i : m1 i with
      | none => rfl
      | some q => have := a.new i q h1i hm; omega
    rw [b.keep i (Nat.lt_of_lt_of_le hi a.n) hm1, h1]
  fzn := fun r p hp => by
    rcases b.fzn r p hp with h1 | h1 | ⟨j, bj, s', hj, hwj, hmj⟩
    · exact a.fzn r p h1
    · exact .inr (.inl (Nat.le_trans a.size h1))
    · exact .inr (a.fresh j bj r s' hj hwj hmj)
theorem SR.drew {base : Nat} {m m' : M} {h h' : H} {w w' : World} (a : SR base m h w m' h' w') : SR base m h w m' h' w'.drew :=
  { a with hr := { a.hr with } }
theorem SR.of_drew {base : Nat} {m m' : M} {h h' : H} {w w' : World} (a : SR base m h w.drew m' h' w') : SR base m h w m' h' w' := { a with }
theorem HR.drew {base : Nat} {m : M} {h : H} {w : World} (a : HR base m h w) : HR base m h w.drew := { a with }
end Go.As
/- Reads, writes and new blocks, on both sides. -/
namespace Go.As
theorem H.get_put (h : H) (i : Nat) (b : Blk) (j : Nat) : (h.put i b).get j = if j = i then some b else h.get j := Tr.get_set h.t i b j
theorem H.get_new (h : H) (b : Blk) (j : Nat) : (h.new b).get j = if j = h.n then some b else h.get j := Tr.get_set h.t h.n b j
theorem H.n_put (h : H) (i : Nat) (b : Blk) : (h.put i b).n = h.n := rfl
theorem H.n_new (h : H) (b : Blk) : (h.new b).n = h.n + 1 := rfl
theorem H.low_new (h : H) (b : Blk) : (h.new b).low = h.low := rfl
theorem H.low_put (h : H) (i : Nat) (b : Blk) : (h.put i b).low ≤ h.low ∧ (h.put i b).low ≤ i := by
  show (match Nat.ble h.low i with | true => h.low | false => i) ≤ h.low ∧ (match Nat.ble h.low i with | true => h.low | false => i) ≤ i
  cases hb : Nat.ble h.low i with
  | true => have := Nat.le_of_ble_eq_true hb; exact ⟨Nat.le_refl _, this⟩
  | false =>
    have : ¬ h.low ≤ i := fun hle => by rw [Nat.ble_eq_true_of_le hle] at hb; cases hb
    exact ⟨show i ≤ h.low by omega, Nat.le_refl _⟩
theorem VR.oneCell {m : M} {v : V} {x : Value} (h : VR m v x) (h1 : one v = true) : x.oneCell' = true := by
  cases h <;> first | rfl | (simp [one] at h1; done) | (rename_i hh; cases hh <;> rfl)
theorem all_oneCell {m : M} {l : List V} {a : List Value} (h : VRs m l a) (h1 : l.all one = true) : ∀ x ∈ a, x.oneCell' = true := by
  intro x hx
  obtain ⟨k, hk, hkx⟩ := List.mem_iff_getElem.1 hx
  have hkl : k < l.length := by rw [h.1]; exact hk
  have := h.2 k l[k] x (List.getElem?_eq_getElem hkl) (by rw [List.getElem?_eq_getElem hk, hkx])
  exact this.oneCell (List.all_eq_true.1 h1 _ (List.getElem_mem hkl))
theorem Addr.add_plain (r o n : Nat) : (⟨r, o, none⟩ : Addr).add n = ⟨r, o + n, none⟩ := by
  unfold Addr.add; split <;> simp_all
section
variable {base : Nat} {m : M} {h : H} {w : World} {P : Program}
theorem HR.cell (hr : HR base m h w) {b : Nat} {c : Tr V} {wr : Bool} {g : Option (Nat × Nat)} {r k : Nat} {s : Nat × Nat} {v : V} (hb : h.get b = some (.cells c wr g)) (hm : m b = some (r, s)) (hc : c.get k = some v) :
    one v = true ∧ ∃ x, w.cell? ⟨r, s.1 + k, none⟩ = some x ∧ VR m v x ∧ w.frozen? ⟨r, s.1 + k, none⟩ = false := by
  obtain ⟨a, e, lo, hi, ho, hcs, _⟩ := hr.blk b _ r s hb hm
  obtain ⟨h1, ⟨x, hx, hv⟩, hf⟩ := hcs k v hc
  refine ⟨h1, x, ?_, hv, ?_⟩
  · simp [World.cell?, ho, hx]
  · simp only [World.frozen?, ho]
    by_cases hlo : lo ≤ s.1 + k
    · have : ¬ s.1 + k < hi := fun h => hf ⟨hlo, h⟩
      simp [this]
    · simp [hlo]
theorem HR.cells (hr : HR base m h w) {b : Nat} {c : Tr V} {wr : Bool} {g : Option (Nat × Nat)} {r o n : Nat} {s : Nat × Nat} {l : List V} (hb : h.get b = some (.cells c wr g)) (hm : m b = some (r, s)) (hl : getN c n o = some l) :
    ∃ xs : List Value, xs.length = n ∧ VRs m l xs ∧ (∀ j v, xs[j]? = some v → w.cell? ((⟨r, s.1 + o, none⟩ : Addr).add j) = some v) ∧ (loadCells ⟨r, s.1 + o, none⟩ n).run P w = .ok xs.toArray w := by
  obtain ⟨hn, hc⟩ := getN_spec hl
  have key : ∀ j : Nat, j < n → ∃ x, w.cell? ⟨r, s.1 + o + j, none⟩ = some x ∧ ∀ v, l[j]? = some v → VR m v x := by
    intro j hj
    have hj' : j < l.length := by omega
    obtain ⟨_, x, hx, hv, _⟩ := hr.cell hb hm (hc j l[j] (List.getElem?_eq_getElem hj'))
    refine ⟨x, by rw [Nat.add_assoc]; exact hx, fun v hv' => ?_⟩
    rw [List.getElem?_eq_getElem hj'] at hv'
    cases hv'; exact hv
  let f : Nat → Value := fun j => (w.cell? ⟨r, s.1 + o + j, none⟩).getD undef
  have hf : ∀ j, j < n → w.cell? ((⟨r, s.1 + o, none⟩ : Addr).add j) = some (f j) := by
    intro j hj
    obtain ⟨x, hx, _⟩ := key j hj
    rw [Addr.add_plain, hx]
    show some x = some ((w.cell? ⟨r, s.1 + o + j, none⟩).getD undef)
    rw [hx]; rfl
  refine ⟨(List.range n).map f, by simp, ⟨by simp [hn], fun k v x hv hx => ?_⟩, fun j v hj => ?_, run_loadCells (P := P) w _ n f hf⟩
  · have hk : k < n := by
      have := (List.getElem?_eq_some_iff.1 hv).1; omega
    rw [List.getElem?_map, List.getElem?_range hk] at hx
    cases hx
    obtain ⟨x, hx, hvx⟩ := key k hk
    show VR m v ((w.cell? ⟨r, s.1 + o + k, none⟩).getD undef)
    rw [hx]; exact hvx v hv
  · have hk : j < n := by
      have := (List.getElem?_eq_some_iff.1 hj).1; simpa using this
    rw [List.getElem?_map, List.getElem?_range hk] at hj
    cases hj
    exact hf j hk
theorem HR.row (hr : HR base m h w) {r q : Nat} {p : FA} (hf : m.fz r = some (some p)) {l : List V}
    (ho : ∀ (k : Nat) (v : V), l[k]? = some v → one v = true ∧ (∃ x, p.1[q + k]? = some x) ∧ ¬(p.2.1 ≤ q + k ∧ q + k < p.2.2)) (hx : ∀ (k : Nat) (v : V) (x : Value), l[k]? = some v → p.1[q + k]? = some x → FR m.fz v x) :
    ∃ xs : List Value, xs.length = l.length ∧ VRs m l xs ∧ l.all one = true ∧ (∀ j v, xs[j]? = some v → w.cell? ((⟨r, q, none⟩ : Addr).add j) = some v) ∧ (loadCells ⟨r, q, none⟩ l.length).run P w = .ok xs.toArray w := by
  obtain ⟨e, he⟩ := hr.frz r (some p) hf
  have key : ∀ j : Nat, j < l.length → ∃ x, w.cell? ⟨r, q + j, none⟩ = some x ∧ ∀ v, l[j]? = some v → VR m v x := by
    intro j hj
    obtain ⟨_, ⟨x, hxx⟩, _⟩ := ho j l[j] (List.getElem?_eq_getElem hj)
    refine ⟨x, by simp [World.cell?, he, hxx], fun v hv => (hx j v x hv hxx).vr⟩
  let f : Nat → Value := fun j => (w.cell? ⟨r, q + j, none⟩).getD undef
  have hfj : ∀ j, j < l.length → w.cell? ((⟨r, q, none⟩ : Addr).add j) = some (f j) := by
    intro j hj
    obtain ⟨x, hx, _⟩ := key j hj
    rw [Addr.add_plain, hx]
    show some x = some ((w.cell? ⟨r, q + j, none⟩).getD undef)
    rw [hx]; rfl
  refine ⟨(List.range l.length).map f, by simp, ⟨by simp, fun k v x hv hx => ?_⟩, ?_, fun j v hj => ?_, run_loadCells (P := P) w _ l.length f hfj⟩
  · have hk : k < l.length := (List.getElem?_eq_some_iff.1 hv).1
    rw [List.getElem?_map, List.getElem?_range hk] at hx
    cases hx
    obtain ⟨x, hx, hvx⟩ := key k hk
    show VR m v ((w.cell? ⟨r, q + k, none⟩).getD undef)
    rw [hx]; exact hvx v hv
  · refine List.all_eq_true.2 fun v hv => ?_
    obtain ⟨k, hk, hkv⟩ := List.mem_iff_getElem.1 hv
    exact (ho k v (by rw [List.getElem?_eq_getElem hk, hkv])).1
  · have hk : j < l.length := by
      have := (List.getElem?_eq_some_iff.1 hj).1; simpa using this
    rw [List.getElem?_map, List.getElem?_range hk] at hj
    cases hj
    exact hfj j hk
theorem pre_spec : ∀ {n : Nat} {l r : List V}, pre n l = some r → r.length = n ∧ ∀ (k : Nat) (v : V), r[k]? = some v → l[k]? = some v
  | 0, l, r, h => by cases h; exact ⟨rfl, fun k v hk => by simp at hk⟩
  | n + 1, [], r, h => by cases h
  | n + 1, u :: l, r, h => by
    simp only [pre] at h
    cases hp : pre n l with
    | none => rw [hp] at h; cases h
    | some r' =>
      rw [hp] at h; cases h
      obtain ⟨h1, h2⟩ := pre_spec hp
      refine ⟨by simp [h1], fun k v hk => ?_⟩
      cases k with
      | zero => simpa using hk
      | succ k => simpa using h2 k v (by simpa using hk)
theorem flat_get {g : Nat → List V} {sz : Nat} : ∀ (n i : Nat), (∀ j, j < n → (g (i + j)).length = sz) → (flat g n i).length = n * sz ∧ ∀ (k : Nat) (v : V), (flat g n i)[k]? = some v → ∃ j b : Nat, j < n ∧ k = j * sz + b ∧ (g (i + j))[b]? = some v
  | 0, i, _ => ⟨by simp [flat], fun k v hk => by simp [flat] at hk⟩
  | n + 1, i, hg => by
    obtain ⟨h1, h2⟩ := flat_get (g := g) (sz := sz) n (i + 1) (fun j hj => by have := hg (j + 1) (by omega); rwa [show i + (j + 1) = i + 1 + j from by omega] at this)
    have h0 := hg 0 (by omega)
    rw [Nat.add_zero] at h0
    refine ⟨by simp only [flat, List.length_append, h0, h1, Nat.succ_mul]; omega, fun k v hk => ?_⟩
    simp only [flat] at hk
    rcases Nat.lt_or_ge k sz with hlt | hge
    · rw [List.getElem?_append_left (by omega)] at hk
      exact ⟨0, k, by omega, by omega, by rw [Nat.add_zero]; exact hk⟩
    · rw [List.getElem?_append_right (by omega), h0] at hk
      obtain ⟨j, b, hj, hkb, hv⟩ := h2 _ v hk
      refine ⟨j + 1, b, by omega, by rw [Nat.succ_mul]; omega, ?_⟩
      rwa [show i + (j + 1) = i + 1 + j from by omega]
theorem HR.rslCells (hr : HR base m h w) {ex : Bool} {sz n k : Nat} {g : Nat → List V} {x : Value} (hx : FR m.fz (.rsl ex sz n g) x) (hk : k ≤ n) :
    ∃ (b : Option Addr) (cap : Nat) (xs : List Value), x = .slice b n cap ∧ n ≤ cap ∧ (ex = true → cap = n) ∧ (flat g k 0).length = k * sz ∧ xs.length = k * sz ∧ VRs m (flat g k 0) xs ∧ (flat g k 0).all one = true ∧ (k ≠ 0 → ∃ a, b = some a ∧ (∀ j v, xs[j]? = some v → w.cell? (a.add j) = some v) ∧ (loadCells a (k * sz)).run P w = .ok xs.toArray w) := by
  cases hx with
  | rsl0 =>
    have : k = 0 := by omega
    subst this
    refine ⟨none, 0, [], rfl, Nat.le_refl _, fun _ => rfl, by simp [flat], by simp, VRs.nil m, rfl, fun h => absurd rfl h⟩
  | @rsl _ _ _ _ r q cap p hf hn he hl ho hx =>
    obtain ⟨h1, h2⟩ := flat_get (g := g) (sz := sz) k 0 (fun j hj => by rw [Nat.zero_add]; exact hl j (by omega))
    obtain ⟨xs, g1, g2, g3, g4, g5⟩ := hr.row (P := P) hf (q := q) (l := flat g k 0) (fun j v hj => by
      obtain ⟨i, b, hi, rfl, hv⟩ := h2 j v hj
      rw [Nat.zero_add] at hv
      have := ho i (by omega) b v hv
      rwa [show q + i * sz + b = q + (i * sz + b) from by omega] at this) (fun j v y hj hy => by
      obtain ⟨i, b, hi, rfl, hv⟩ := h2 j v hj
      rw [Nat.zero_add] at hv
      exact hx i (by omega) b v y hv (by rwa [show q + i * sz + b = q + (i * sz + b) from by omega]))
    exact ⟨_, cap, xs, rfl, hn, he, h1, by rw [g1, h1], g2, g3, fun _ => ⟨_, rfl, g4, by rw [h1] at g5; exact g5⟩⟩
theorem FR.elem {fz : FZ} {ex : Bool} {sz n : Nat} {g : Nat → List V} {x : Value} (hx : FR fz (.rsl ex sz n g) x) {i : Nat} (hi : i < n) : ∃ r q cap, x = .slice (some ⟨r, q, none⟩) n cap ∧ FR fz (.rptr (g i)) (.pointer (some ⟨r, q + i * sz, none⟩)) := by
  cases hx with
  | rsl0 => omega
  | rsl hf hn he hl ho hx => exact ⟨_, _, _, rfl, .rptr hf (ho i hi) (hx i hi)⟩
theorem FR.drop {fz : FZ} {cs : List V} {r q : Nat} (h : FR fz (.rptr cs) (.pointer (some ⟨r, q, none⟩))) (o : Nat) : FR fz (.rptr (cs.drop o)) (.pointer (some ⟨r, q + o, none⟩)) := by
  cases h with
  | rptr hf ho hx =>
    refine .rptr hf (fun k v hk => ?_) (fun k v x hk hx' => ?_)
    · rw [List.getElem?_drop] at hk
      have := ho _ _ hk
      rwa [← Nat.add_assoc] at this
    · rw [List.getElem?_drop] at hk
      exact hx _ v x hk (by rw [← Nat.add_assoc]; exact hx')
theorem SR.put (hr : HR base m h w) {b : Nat} {bo bn : Blk} {r : Nat} {s : Nat × Nat} {w' : World} (hb : h.get b = some bo) (hw : bo.wr = true) (hm : m b = some (r, s))
    (hn : BR m s (w'.heap[r]?) bn) (ho : ∀ r', r' ≠ r → w'.heap[r']? = w.heap[r']?) (hz : w'.heap.size = w.heap.size)
    (h1 : w'.os = w.os) (h2 : w'.tape = w.tape) (h3 : w'.output = w.output) : SR base m h w m (h.put b bn) w' where
  ext := .refl m
  new := fun i p h1 h2 => by rw [h1] at h2; cases h2
  hr := {
    blk := fun i bi r' s' hi hmi => by
      rw [H.get_put] at hi
      by_cases he : i = b
      · subst he; rw [if_pos rfl] at hi; cases hi; rw [hm] at hmi; cases hmi; exact hn
      · rw [if_neg he] at hi
        by_cases hrr : r' = r
        · subst hrr
          cases hlive : bi.live with
          | true => exact absurd (hr.inj b i bo bi _ _ _ hb hi hw hlive hm hmi).symm he
          | false => cases bi <;> simp [Blk.live] at hlive; trivial
        · rw [ho r' hrr]; exact hr.blk i bi r' s' hi hmi
    inj := fun i j bi bj r1 s1 s2 hi hj hwi hlj hmi hmj => by
      rw [H.get_put] at hi hj
      by_cases hei : i = b
      · by_cases hej : j = b
        · rw [hei, hej]
        · subst hei
          rw [if_neg hej] at hj
          rw [hm] at hmi; cases hmi
          exact hr.inj i j bo bj _ _ _ hb hj hw hlj hm hmj
      · rw [if_neg hei] at hi
        by_cases hej : j = b
        · subst hej
          rw [hm] at hmj; cases hmj
          exact (hr.inj j i bo bi _ _ _ hb hi hw (Blk.live_of_wr hwi) hm hmi).symm
        · rw [if_neg hej] at hj
          exact hr.inj i j bi bj _ _ _ hi hj hwi hlj hmi hmj
    own := fun i bi r' s' hi hwi hmi => by
      rw [H.get_put] at hi
      by_cases he : i = b
      · subst he; rw [hm] at hmi; cases hmi; exact hr.own _ bo _ _ hb hw hm
      · rw [if_neg he] at hi; exact hr.own i bi r' s' hi hwi hmi
    rng := fun i r' s' hmi => by rw [hz]; exact hr.rng i r' s' hmi
    lt := fun i bi hi => by
      rw [H.get_put] at hi
      rw [H.n_put]
      by_cases he : i = b
      · subst he; exact hr.lt _ bo hb
      · rw [if_neg he] at hi; exact hr.lt i bi hi
    dom := fun i hi => hr.dom i hi
    frz := fun r' p hp => by
      rw [ho r' (fun he => by have := hr.nfz b bo r s hb hw hm; rw [← he, hp] at this; cases this)]
      exact hr.frz r' p hp
    nfz := fun i bi r' s' hi hwi hmi => by
      rw [H.get_put] at hi
      by_cases he : i = b
      · subst he; rw [hm] at hmi; cases hmi; exact hr.nfz _ bo _ _ hb hw hm
      · rw [if_neg he] at hi; exact hr.nfz i bi r' s' hi hwi hmi }
  n := Nat.le_refl _
  os := h1
  tape := h2
  output := h3
  size := Nat.le_of_eq hz.symm
  frame := fun r' _ hno => ho r' (fun he => hno b bo s hb hw (he ▸ hm))
  fresh := fun i bi r' s' hi hwi hmi => by
    right
    rw [H.get_put] at hi
    by_cases he : i = b
    · subst he; exact ⟨i, bo, s', hb, hw, hmi⟩
    · rw [if_neg he] at hi; exact ⟨i, bi, s', hi, hwi, hmi⟩
  low := fun i hi hl => by
    rw [H.get_put, if_neg]
    have := H.low_put h b bn
    omega
  lowle := (H.low_put h b bn).1
  fzn := fun _ _ h => .inl h
  keep := fun i _ hmi => by
    rw [H.get_put, if_neg]
    intro he; subst he; rw [hm] at hmi; cases hmi
def M.set (m : M) (i : Nat) (p : Nat × Nat × Nat) : M := ⟨fun j => if j = i then some p else m j, m.fz⟩
theorem M.set_same (m : M) (i : Nat) (p : Nat × Nat × Nat) : (m.set i p) i = some p := if_pos rfl
theorem M.set_ne (m : M) {i j : Nat} (p : Nat × Nat × Nat) (h : j ≠ i) : (m.set i p) j = m j := if_neg h
theorem Ext.set {m : M} {i : Nat} (p : Nat × Nat × Nat) (h : m i = none) : Ext m (m.set i p) := ⟨fun j q hq => by
  by_cases he : j = i
  · subst he; rw [h] at hq; cases hq
  · rw [M.set_ne _ _ he]; exact hq, fun _ _ h => h⟩
theorem SR.new' (hr : HR base m h w) {b : Blk} {o : Obj} {e : Nat} (hB : base ≤ w.heap.size) (hb : BR (m.set h.n (w.heap.size, 0, e)) (0, e) (some o) b) :
    SR base m h w (m.set h.n (w.heap.size, 0, e)) (h.new b) (w.alloc o) where
  ext := .set _ (hr.dom h.n (Nat.le_refl _))
  new := fun i p hp hn => by
    by_cases he : i = h.n
    · subst he; rw [H.n_new]; omega
    · rw [M.set_ne _ _ he, hn] at hp; cases hp
  hr := {
    blk := fun i bi r s hi hmi => by
      rw [H.get_new] at hi
      by_cases he : i = h.n
      · subst he
        rw [if_pos rfl] at hi; cases hi
        rw [M.set_same] at hmi; cases hmi
        have : (w.alloc o).heap[w.heap.size]? = some o := by
          show (w.heap.push o)[w.heap.size]? = some o
          rw [Array.getElem?_push, if_pos rfl]
        rw [this]; exact hb
      · rw [if_neg he] at hi
        rw [M.set_ne _ _ he] at hmi
        have hlt := hr.rng i r s hmi
        have : (w.alloc o).heap[r]? = w.heap[r]? := by
          show (w.heap.push o)[r]? = _
          rw [Array.getElem?_push, if_neg (by omega)]
        rw [this]
        exact (hr.blk i bi r s hi hmi).mono (.set _ (hr.dom h.n (Nat.le_refl _)))
    inj := fun i j bi bj r s s' hi hj hwi hlj hmi hmj => by
      rw [H.get_new] at hi hj
      by_cases hei : i = h.n
      · by_cases hej : j = h.n
        · rw [hei, hej]
        · subst hei
          rw [M.set_same] at hmi; cases hmi
          rw [M.set_ne _ _ hej] at hmj
          have := hr.rng j _ _ hmj; omega
      · rw [if_neg hei] at hi
        rw [M.set_ne _ _ hei] at hmi
        by_cases hej : j = h.n
        · subst hej
          rw [M.set_same] at hmj; cases hmj
          have := hr.rng i _ _ hmi; omega
        · rw [if_neg hej] at hj
          rw [M.set_ne _ _ hej] at hmj
          exact hr.inj i j bi bj _ _ _ hi hj hwi hlj hmi hmj
    own := fun i bi r s hi hwi hmi => by
      rw [H.get_new] at hi
      by_cases he : i = h.n
      · subst he; rw [M.set_same] at hmi; cases hmi; exact hB
      · rw [if_neg he] at hi; rw [M.set_ne _ _ he] at hmi; exact hr.own i bi r s hi hwi hmi
    rng := fun i r s hmi => by
      rw [World.size_alloc]
      by_cases he : i = h.n
      · subst he; rw [M.set_same] at hmi; cases hmi; omega
      · rw [M.set_ne _ _ he] at hmi; have := hr.rng i r s hmi; omega
    lt := fun i bi hi => by
      rw [H.get_new] at hi
      rw [H.n_new]
      by_cases he : i = h.n
      · omega
      · rw [if_neg he] at hi; have := hr.lt i bi hi; omega
    dom := fun i hi => by
      rw [H.n_new] at hi
      rw [M.set_ne _ _ (by omega)]; exact hr.dom i (by omega)
    frz := fun r p hp => by
      have he := hr.frz r p hp
      have hlt := he.lt
      show FzO p ((w.heap.push o)[r]?)
      rw [Array.getElem?_push, if_neg (by omega)]; exact he
    nfz := fun i bi r s hi hwi hmi => by
      rw [H.get_new] at hi
      by_cases he : i = h.n
      · subst he
        rw [M.set_same] at hmi; cases hmi
        cases hf : m.fz w.heap.size with
        | none => exact hf
        | some p =>
          have hlt := (hr.frz _ p hf).lt
          omega
      · rw [if_neg he] at hi; rw [M.set_ne _ _ he] at hmi; exact hr.nfz i bi r s hi hwi hmi }
  n := by rw [H.n_new]; omega
  os := rfl
  tape := rfl
  output := rfl
  size := by rw [World.size_alloc]; omega
  frame := fun r hr' _ => by
    show (w.heap.push o)[r]? = _
    rw [Array.getElem?_push, if_neg (by omega)]
  fresh := fun i bi r s hi hwi hmi => by
    rw [H.get_new] at hi
    by_cases he : i = h.n
    · subst he; rw [M.set_same] at hmi; cases hmi; exact .inl (Nat.le_refl _)
    · rw [if_neg he] at hi; rw [M.set_ne _ _ he] at hmi; exact .inr ⟨i, bi, s, hi, hwi, hmi⟩
  low := fun i hi _ => by rw [H.get_new, if_neg (by omega)]
  lowle := Nat.le_refl _
  fzn := fun _ _ h => .inl h
  keep := fun i hi _ => by rw [H.get_new, if_neg (by omega)]
theorem BR.row {m : M} {l : List V} {xs : List Value} (hl : VRs m l xs) (h1 : l.all one = true) (e : TypeId) (wr : Bool) : BR m (0, 0) (some (.cells xs.toArray e)) (.cells (ofL l 0) wr none) := by
  refine ⟨xs.toArray, e, 0, 0, rfl, fun k v hk => ?_, fun sz K hg => by cases hg⟩
  rw [get_ofL, if_pos (Nat.zero_le _), Nat.sub_zero] at hk
  obtain ⟨x, hx, hv⟩ := hl.get hk
  refine ⟨List.all_eq_true.1 h1 v (List.mem_of_getElem? hk), ⟨x, by simpa using hx, hv⟩, by omega⟩
theorem BR.rowMore {m : M} {l : List V} {xs ys : List Value} (hl : VRs m l xs) (h1 : l.all one = true) (e : TypeId) (wr : Bool) {sz K more : Nat} (hK : K = xs.length) (hm : more * sz = ys.length) :
    BR m (0, more) (some (.cells (xs ++ ys).toArray e)) (.cells (ofL l 0) wr (some (sz, K))) := by
  refine ⟨(xs ++ ys).toArray, e, 0, 0, rfl, fun k v hk => ?_, fun sz' K' hg => ?_⟩
  · rw [get_ofL, if_pos (Nat.zero_le _), Nat.sub_zero] at hk
    obtain ⟨x, hx, hv⟩ := hl.get hk
    refine ⟨List.all_eq_true.1 h1 v (List.mem_of_getElem? hk), ⟨x, ?_, hv⟩, by omega⟩
    have hlt : k < xs.length := (List.getElem?_eq_some_iff.1 hx).1
    show (xs ++ ys).toArray[0 + k]? = some x
    rw [Nat.zero_add, List.getElem?_toArray, List.getElem?_append_left hlt]; exact hx
  · cases hg
    refine ⟨?_, fun k _ _ => by omega⟩
    show 0 + K + more * sz ≤ (xs ++ ys).toArray.size
    rw [hm, hK]; simp
theorem HR.store (hr : HR base m h w) {b : Nat} {c c' : Tr V} {g : Option (Nat × Nat)} {r o : Nat} {s : Nat × Nat} {l : List V} {xs : List Value} (hb : h.get b = some (.cells c true g)) (hm : m b = some (r, s))
    (hp : putN l c o = some c') (hl : VRs m l xs) (h1 : l.all one = true) :
    (storeCells ⟨r, s.1 + o, none⟩ xs).run P w = .ok () (w.setCells r (s.1 + o) xs) ∧ SR base m h w m (h.put b (.cells c' true g)) (w.setCells r (s.1 + o) xs) := by
  obtain ⟨hin, hget⟩ := putN_spec hp
  have hxl : xs.length = l.length := hl.1.symm
  have hin' : ∀ j, j < xs.length → ∃ v, c.get (o + j) = some v := fun j hj => Option.isSome_iff_exists.1 (hin j (by omega))
  have hrun := run_storeCells_cells (P := P) r (s.1 + o) xs 0 w
    (fun j hj => by
      obtain ⟨v, hv⟩ := hin' j hj
      obtain ⟨_, x, hx, _, _⟩ := hr.cell hb hm hv
      rw [show s.1 + o + 0 + j = s.1 + (o + j) from by omega, hx]; rfl)
    (fun j hj => by
      obtain ⟨v, hv⟩ := hin' j hj
      obtain ⟨_, x, hx, _, hf⟩ := hr.cell hb hm hv
      rw [show s.1 + o + 0 + j = s.1 + (o + j) from by omega]; exact hf)
    (all_oneCell hl h1)
  rw [Nat.add_zero] at hrun
  refine ⟨hrun, ?_⟩
  obtain ⟨a, e, lo, hi, ho, hcs, hroom⟩ := hr.blk b _ r s hb hm
  -- what the block holds behind the stores
  have hw : ∀ (ys : List Value) (p : Nat) (w : World) (a : Array Value), w.heap[r]? = some (.cells a e (lo, hi)) →
      ∃ a' : Array Value, (w.setCells r p ys).heap[r]? = some (.cells a' e (lo, hi)) ∧ a'.size = a.size ∧ (∀ i, i < p ∨ p + ys.length ≤ i → a'[i]? = a[i]?) ∧
        (∀ j y, ys[j]? = some y → p + j < a.size → a'[p + j]? = some y) ∧ (∀ r', r' ≠ r → (w.setCells r p ys).heap[r']? = w.heap[r']?) ∧
        (w.setCells r p ys).heap.size = w.heap.size ∧ (w.setCells r p ys).os = w.os ∧ (w.setCells r p ys).tape = w.tape ∧ (w.setCells r p ys).output = w.output := by
    intro ys
    induction ys with
    | nil => intro p w a ha; exact ⟨a, ha, rfl, fun _ _ => rfl, fun j y hj => by simp at hj, fun _ _ => rfl, rfl, rfl, rfl, rfl⟩
    | cons y ys ih =>
      intro p w a ha
      have h1 : (w.setCell ⟨r, p, none⟩ y).heap[r]? = some (.cells (a.setIfInBounds p y) e (lo, hi)) := by
        simp [World.setCell, Array.getElem?_modify, ha]
      obtain ⟨a', g1, g2, g3, g4, g5, g6, g7, g8, g9⟩ := ih (p + 1) (w.setCell ⟨r, p, none⟩ y) _ h1
      refine ⟨a', g1, by rw [g2]; simp, fun i hi => ?_, fun j z hj hlt => ?_, fun r' hr' => ?_, ?_, g7, g8, g9⟩
      · rw [g3 i (by simp at hi; omega), Array.getElem?_setIfInBounds_ne (by simp at hi; omega)]
      · cases j with
        | zero =>
          simp at hj; subst hj
          rw [Nat.add_zero, g3 p (.inl (by omega)), Array.getElem?_setIfInBounds_self_of_lt (by omega)]
        | succ j =>
          have := g4 j z (by simpa using hj) (by simp; omega)
          rw [show p + (j + 1) = p + 1 + j from by omega]; exact this
      · rw [World.setCells, g5 r' hr']
        simp [World.setCell, Array.getElem?_modify, Ne.symm hr']
      · rw [World.setCells, g6]; simp
  obtain ⟨a', g1, g2, g3, g4, g5, g6, g7, g8, g9⟩ := hw xs (s.1 + o) w a ho
  refine SR.put hr hb rfl hm ?_ g5 g6 g7 g8 g9
  refine ⟨a', e, lo, hi, g1, fun k v hk => ?_, fun sz K hg => by rw [g2]; exact hroom sz K hg⟩
  rw [hget] at hk
  by_cases hr' : o ≤ k ∧ k < o + l.length
  · rw [if_pos hr'] at hk
    obtain ⟨u, hu⟩ := hin' (k - o) (by omega)
    rw [show o + (k - o) = k from by omega] at hu
    obtain ⟨_, ⟨y, hy, _⟩, hf⟩ := hcs k u hu
    obtain ⟨x, hx, hv⟩ := hl.get hk
    have hsz : s.1 + k < a.size := by
      rcases Nat.lt_or_ge (s.1 + k) a.size with h' | h'
      · exact h'
      · rw [Array.getElem?_eq_none h'] at hy; cases hy
    refine ⟨List.all_eq_true.1 h1 v (List.mem_of_getElem? hk), ⟨x, ?_, hv⟩, hf⟩
    have := g4 (k - o) x hx (by omega)
    rw [show s.1 + o + (k - o) = s.1 + k from by omega] at this
    exact this
  · rw [if_neg hr'] at hk
    obtain ⟨h1', ⟨y, hy, hv⟩, hf⟩ := hcs k v hk
    exact ⟨h1', ⟨y, by rw [g3 (s.1 + k) (by omega)]; exact hy, hv⟩, hf⟩
end
end Go.As
/- Operations that ask for no memory. -/
namespace Go.As
theorem pureP_run {α : Type} {P : Program} {s : Sem α} {a : α} (h : pureP P s = some a) (w : World) : s.run P w = .ok a w := by
  induction s with
  | pure b => simp only [pureP] at h; cases h; rfl
  | program k ih => simp only [pureP] at h; exact ih P h
  | _ => simp [pureP] at h
theorem scalarOf_VR {x : Value} {v : V} (h : scalarOf x = some v) (m : M) : VR m v x ∧ one v = true := by
  unfold scalarOf at h
  split at h <;> cases h
  · exact ⟨.bool _, rfl⟩
  · exact ⟨.int _ _, rfl⟩
  · exact ⟨.str _, rfl⟩
  · exact ⟨.nilp, rfl⟩
  · exact ⟨.nils, rfl⟩
  · exact ⟨.nilm, rfl⟩
  · exact ⟨.nilf, rfl⟩
theorem mapM'_scalar {l : List Value} {r : List V} (h : mapM' scalarOf l = some r) (m : M) : VRs m r l ∧ r.all one = true := by
  obtain ⟨h1, h2⟩ := mapM'_spec h
  refine ⟨⟨h1, fun k v x hv hx => ?_⟩, List.all_eq_true.2 fun v hv => ?_⟩
  · obtain ⟨c, hc, hs⟩ := h2 k x hx
    rw [hv] at hc; cases hc
    exact (scalarOf_VR hs m).1
  · obtain ⟨k, hk, hkv⟩ := List.mem_iff_getElem.1 hv
    have hkl : k < l.length := by omega
    obtain ⟨c, hc, hs⟩ := h2 k l[k] (List.getElem?_eq_getElem hkl)
    rw [List.getElem?_eq_getElem hk, hkv] at hc
    cases hc
    exact (scalarOf_VR hs m).2
theorem ofVal_VR {x : Value} {v : V} (h : ofVal x = some v) (m : M) : VR m v x ∧ VRs m v.cells x.cells.toList ∧ v.cells.all one = true := by
  unfold ofVal at h
  split at h
  · rename_i cs
    cases hm : mapM' scalarOf cs.toList with
    | none => rw [hm] at h; cases h
    | some l =>
      rw [hm] at h; cases h
      obtain ⟨h1, h2⟩ := mapM'_scalar hm m
      exact ⟨h1.agg, h1, h2⟩
  · rename_i hx
    obtain ⟨h1, h2⟩ := scalarOf_VR h m
    have hc : v.cells = [v] := by cases v <;> first | rfl | (simp [one] at h2)
    have hxc : x.cells = #[x] := by cases x <;> first | rfl | (exact absurd rfl (hx _))
    rw [hc, hxc]
    exact ⟨h1, (VRs.nil m).cons h1, by simp [h2]⟩
theorem VR.cells {m : M} {v : V} {x : Value} (h : VR m v x) (h1 : v.cells.all one = true) : VRs m v.cells x.cells.toList := by
  cases h with
  | agg l h => exact .of_array l h
  | tup l h => simp [V.cells, one] at h1
  | bool b => exact (VRs.nil m).cons (.bool b)
  | int k n => exact (VRs.nil m).cons (.int k n)
  | str s => exact (VRs.nil m).cons (.str s)
  | ptr h => exact (VRs.nil m).cons (.ptr h)
  | nilp => exact (VRs.nil m).cons .nilp
  | sl h he => exact (VRs.nil m).cons (.sl h he)
  | sl0 h => exact (VRs.nil m).cons (.sl0 h)
  | nils => exact (VRs.nil m).cons .nils
  | map h => exact (VRs.nil m).cons (.map h)
  | nilm => exact (VRs.nil m).cons .nilm
  | fn la ha lb hb => exact (VRs.nil m).cons (.fn la ha lb hb)
  | yld h => exact (VRs.nil m).cons (.yld h)
  | nilf => exact (VRs.nil m).cons .nilf
  | rsl h => have h0 := h; cases h <;> exact (VRs.nil m).cons (.rsl h0)
  | rptr h => have h0 := h; cases h; exact (VRs.nil m).cons (.rptr h0)
theorem plain1_VR {m : M} {v : V} {x y : Value} (h : plain1 v = some x) (hv : VR m v y) : y = x := by
  unfold plain1 at h
  split at h <;> cases h <;> cases hv <;> rfl
theorem plain_VR {m : M} {v : V} {x y : Value} (h : plain v = some x) (hv : VR m v y) : y = x := by
  unfold plain at h
  split at h
  · rename_i cs
    cases hm : mapM' plain1 cs with
    | none => rw [hm] at h; cases h
    | some l =>
      rw [hm] at h; cases h
      cases hv with
      | agg la ha =>
        rename_i a
        obtain ⟨h1, h2⟩ := mapM'_spec hm
        congr 1
        apply Array.ext (by simp; omega)
        intro k hk hk'
        have hkc : k < cs.length := by omega
        obtain ⟨c, hc, hs⟩ := h2 k cs[k] (List.getElem?_eq_getElem hkc)
        have := plain1_VR hs (ha k cs[k] a[k] (List.getElem?_eq_getElem hkc) (Array.getElem?_eq_getElem hk))
        rw [this]
        have hkl : k < l.length := by omega
        rw [List.getElem?_eq_getElem hkl] at hc
        cases hc
        simp
  · exact plain1_VR h hv
theorem ilt_eq (x y : Int) : ilt x y = decide (x < y) := by
  cases x with
  | ofNat a => cases y with
    | ofNat b =>
      show Nat.blt a b = _
      rw [Bool.eq_iff_iff]; simp [Nat.blt_eq]
    | negSucc b => show false = _; rw [Bool.eq_iff_iff]; simp; omega
  | negSucc a => cases y with
    | ofNat b => show true = _; rw [Bool.eq_iff_iff]; simp; omega
    | negSucc b =>
      show Nat.blt b a = _
      rw [Bool.eq_iff_iff]; simp only [Nat.blt_eq, decide_eq_true_eq]; omega
theorem ieq_eq (x y : Int) : ieq x y = (x == y) := by
  cases x with
  | ofNat a => cases y with
    | ofNat b => show Nat.beq a b = _; rw [Bool.eq_iff_iff]; simp; omega
    | negSucc b => show false = _; rw [Bool.eq_iff_iff]; simp
  | negSucc a => cases y with
    | ofNat b => show false = _; rw [Bool.eq_iff_iff]; simp
    | negSucc b => show Nat.beq a b = _; rw [Bool.eq_iff_iff]; simp
theorem inR_iff (r : Int) (h : inR r = true) : -9223372036854775808 ≤ r ∧ r ≤ 9223372036854775807 := by
  cases r with
  | ofNat a => have h1 : a ≤ 9223372036854775807 := Nat.le_of_ble_eq_true h; show -9223372036854775808 ≤ (a : Int) ∧ (a : Int) ≤ 9223372036854775807; omega
  | negSucc a => have h1 : a ≤ 9223372036854775807 := Nat.le_of_ble_eq_true h; omega
theorem wrap_in {r : Int} (h : inR r = true) : IntKind.i64.wrap r = r := by
  have := inR_iff r h
  have e : IntKind.i64.wrap r = if r % 18446744073709551616 ≥ 9223372036854775808 then r % 18446744073709551616 - 18446744073709551616 else r % 18446744073709551616 := by
    simp [IntKind.wrap, IntKind.bits, IntKind.signed]
  rw [e]
  split <;> omega
theorem eqGuard_int (op : BinOp) (t : TypeId) (x y : Operand) (j k : IntKind) (a b : Int) : eqGuard op t x y (.int j a) (.int k b) = Sem.pure () := by
  cases op <;> rfl
theorem fast_run {op : BinOp} {x y : Int} {v : V} (h : fast op x y = some v) (m : M) (P : Program) (t : TypeId) (X Y : Operand) (w : World) :
    ∃ z, (do eqGuard op t X Y (.int .i64 x) (.int .i64 y); binOp op t (.int .i64 x) (.int .i64 y) : Sem Value).run P w = .ok z w ∧ VR m v z := by
  rw [eqGuard_int]
  have hn : ∀ {r : Int} {v : V}, (forceI r fun r => (match inR r with | true => some (V.int .i64 r) | false => none)) = some v → v = .int .i64 r ∧ IntKind.i64.wrap r = r := by
    intro r v h
    rw [forceI_eq] at h
    cases hr : inR r with
    | true => rw [hr] at h; cases h; exact ⟨rfl, wrap_in hr⟩
    | false => rw [hr] at h; cases h
  show ∃ z, (binOp op t (.int .i64 x) (.int .i64 y)).run P w = .ok z w ∧ VR m v z
  cases op <;> simp only [fast] at h
  case add => obtain ⟨rfl, h2⟩ := hn h; exact ⟨.int .i64 (x + y), by show Result.ok (Value.int .i64 (IntKind.i64.wrap (x + y))) w = _; rw [show IntKind.i64.wrap (x + y) = x + y from h2], .int _ _⟩
  case sub => obtain ⟨rfl, h2⟩ := hn h; exact ⟨.int .i64 (x - y), by show Result.ok (Value.int .i64 (IntKind.i64.wrap (x - y))) w = _; rw [show IntKind.i64.wrap (x - y) = x - y from h2], .int _ _⟩
  case mul => obtain ⟨rfl, h2⟩ := hn h; exact ⟨.int .i64 (x * y), by show Result.ok (Value.int .i64 (IntKind.i64.wrap (x * y))) w = _; rw [show IntKind.i64.wrap (x * y) = x * y from h2], .int _ _⟩
  case quo =>
    rw [ieq_eq] at h
    split at h
    · cases h
    · rename_i hy
      obtain ⟨rfl, h2⟩ := hn h
      have hy0 : ¬ y = 0 := by simpa using hy
      exact ⟨.int .i64 (x.tdiv y), by show (Op.intDiv .quo .i64 x y).run P w = _; simp only [Op.intDiv, if_neg hy0]; show Result.ok (Value.int .i64 (IntKind.i64.wrap (x.tdiv y))) w = _; rw [show IntKind.i64.wrap (x.tdiv y) = x.tdiv y from h2], .int _ _⟩
  case rem =>
    rw [ieq_eq] at h
    split at h
    · cases h
    · rename_i hy
      obtain ⟨rfl, h2⟩ := hn h
      have hy0 : ¬ y = 0 := by simpa using hy
      exact ⟨.int .i64 (x.tmod y), by show (Op.intDiv .rem .i64 x y).run P w = _; simp only [Op.intDiv, if_neg hy0]; rfl, .int _ _⟩
  case lss => cases h; rw [ilt_eq]; exact ⟨_, rfl, .bool _⟩
  case gtr => cases h; rw [ilt_eq]; exact ⟨_, rfl, .bool _⟩
  case leq =>
    cases h; rw [ilt_eq]
    refine ⟨.bool (decide (x ≤ y)), rfl, ?_⟩
    have : (!decide (y < x)) = decide (x ≤ y) := by rw [Bool.eq_iff_iff]; simp
    rw [this]; exact .bool _
  case geq =>
    cases h; rw [ilt_eq]
    refine ⟨.bool (decide (x ≥ y)), rfl, ?_⟩
    have : (!decide (x < y)) = decide (x ≥ y) := by rw [Bool.eq_iff_iff]; simp
    rw [this]; exact .bool _
  case eql => cases h; rw [ieq_eq]; exact ⟨_, rfl, .bool _⟩
  case neq =>
    cases h; rw [ieq_eq]
    exact ⟨.bool (x != y), rfl, .bool _⟩
  all_goals cases h
theorem slow_run {P : Program} {op : BinOp} {t : TypeId} {X Y : Operand} {a b v : V} (h : slow P op t X Y a b = some v) {m : M} {x y : Value} (ha : VR m a x) (hb : VR m b y) (w : World) :
    ∃ z, (do eqGuard op t X Y x y; binOp op t x y : Sem Value).run P w = .ok z w ∧ VR m v z := by
  unfold slow at h
  cases hpa : plain a with
  | none => rw [hpa] at h; cases h
  | some a' =>
    cases hpb : plain b with
    | none => rw [hpa, hpb] at h; cases h
    | some b' =>
      rw [hpa, hpb] at h
      dsimp only at h
      have h1 := plain_VR hpa ha
      have h2 := plain_VR hpb hb
      subst h1; subst h2
      cases hp : pureP P (do eqGuard op t X Y x y; binOp op t x y) with
      | none => rw [hp] at h; cases h
      | some z => rw [hp] at h; exact ⟨z, pureP_run hp w, (ofVal_VR h m).1⟩
theorem beqB_iff : ∀ {a b : List UInt8}, beqB a b = true ↔ a = b
  | [], [] => by simp [beqB]
  | [], _ :: _ => by simp [beqB]
  | _ :: _, [] => by simp [beqB]
  | a :: l, b :: r => by
    have e : beqB (a :: l) (b :: r) = (Nat.beq a.toNat b.toNat && beqB l r) := by
      show (match Nat.beq a.toNat b.toNat with | true => beqB l r | false => false) = _
      cases Nat.beq a.toNat b.toNat <;> rfl
    rw [e, Bool.and_eq_true, beqB_iff, List.cons.injEq, Nat.beq_eq]
    exact ⟨fun ⟨h1, h2⟩ => ⟨UInt8.toNat_inj.1 h1, h2⟩, fun ⟨h1, h2⟩ => ⟨by rw [h1], h2⟩⟩
theorem beqB_dec (a b : List UInt8) : beqB a b = decide (a = b) := by rw [Bool.eq_iff_iff, beqB_iff, decide_eq_true_eq]
theorem ba_app (a b : List UInt8) : (⟨⟨a⟩⟩ : ByteArray) ++ ⟨⟨b⟩⟩ = ⟨⟨a ++ b⟩⟩ := by
  apply ByteArray.ext
  rw [ByteArray.data_append]
  exact Array.toList_inj.1 (by simp)
theorem ba_cut (a : List UInt8) (l q : Nat) : (⟨⟨a⟩⟩ : ByteArray).extract l q = ⟨⟨(a.drop l).take (q - l)⟩⟩ := by
  apply ByteArray.ext
  rw [ByteArray.data_extract]
  exact Array.toList_inj.1 (by simp)
theorem ba_loop (a : List UInt8) : ∀ (n i : Nat) (r : List UInt8), a.length - i ≤ n → ByteArray.toList.loop ⟨⟨a⟩⟩ i r = r.reverse ++ a.drop i := by
  intro n
  induction n with
  | zero =>
    intro i r h
    unfold ByteArray.toList.loop
    rw [if_neg (by show ¬ i < a.length; omega), List.drop_eq_nil_of_le (by omega), List.append_nil]
  | succ n ih =>
    intro i r h
    unfold ByteArray.toList.loop
    by_cases hi : i < a.length
    · rw [if_pos (by show i < a.length; exact hi), ih _ _ (by omega)]
      have e : (⟨⟨a⟩⟩ : ByteArray).get! i = a[i] := by
        show (⟨a⟩ : Array UInt8)[i]! = _
        simp [hi]
      rw [e, List.reverse_cons, List.append_assoc, List.drop_eq_getElem_cons hi]
      rfl
    · rw [if_neg (by show ¬ i < a.length; exact hi), List.drop_eq_nil_of_le (by omega), List.append_nil]
theorem ba_toList (a : List UInt8) : (⟨⟨a⟩⟩ : ByteArray).toList = a := ba_loop a _ 0 [] (Nat.le_refl _)
theorem ba_get (a : List UInt8) (k : Nat) : (⟨⟨a⟩⟩ : ByteArray)[k]? = a[k]? := by
  by_cases h : k < a.length
  · rw [List.getElem?_eq_getElem h, getElem?_pos (⟨⟨a⟩⟩ : ByteArray) k h]; rfl
  · rw [List.getElem?_eq_none (by omega), getElem?_neg (⟨⟨a⟩⟩ : ByteArray) k h]
theorem dec_beq (a b : List UInt8) : (a == b) = decide (a = b) := by rw [Bool.eq_iff_iff]; simp
theorem strOp_run {op : BinOp} {a b : ByteArray} {v : V} (h : fastS op a b = some v) (m : M) (P : Program) (t : TypeId) (X Y : Operand) (w : World) :
    ∃ z, (do eqGuard op t X Y (.string a) (.string b); binOp op t (.string a) (.string b) : Sem Value).run P w = .ok z w ∧ VR m v z := by
  obtain ⟨⟨a⟩⟩ := a
  obtain ⟨⟨b⟩⟩ := b
  have hg : eqGuard op t X Y (.string ⟨⟨a⟩⟩) (.string ⟨⟨b⟩⟩) = Sem.pure () := by cases op <;> rfl
  rw [hg]
  unfold fastS at h
  dsimp only at h
  cases op <;> dsimp only at h <;> first | (cases h; done) | skip
  case add =>
    split at h
    · rename_i hb
      rw [forceT_eq] at h; cases h
      have hle := Nat.le_of_ble_eq_true hb
      refine ⟨.string ⟨⟨a ++ b⟩⟩, ?_, .str _⟩
      show (Op.stringOp .add ⟨⟨a⟩⟩ ⟨⟨b⟩⟩).run P w = _
      unfold Op.stringOp
      have e1 : (⟨⟨a⟩⟩ : ByteArray).size = a.length := rfl
      have e2 : (⟨⟨b⟩⟩ : ByteArray).size = b.length := rfl
      dsimp only
      have e3 : IntKind.i64.max = 9223372036854775807 := rfl
      rw [e1, e2, e3, if_neg (by omega), ba_app]
      rfl
    · cases h
  case eql =>
    cases h
    refine ⟨.bool (beqB a b), ?_, .bool _⟩
    show (Op.stringOp .eql ⟨⟨a⟩⟩ ⟨⟨b⟩⟩).run P w = _
    unfold Op.stringOp
    dsimp only
    rw [ba_toList, ba_toList, beqB_dec, dec_beq]
    rfl
  case neq =>
    cases h
    refine ⟨.bool (!beqB a b), ?_, .bool _⟩
    show (Op.stringOp .neq ⟨⟨a⟩⟩ ⟨⟨b⟩⟩).run P w = _
    unfold Op.stringOp
    dsimp only
    rw [ba_toList, ba_toList, beqB_dec, dec_beq]
    rfl
theorem cutS_eq (s : ByteArray) (l q : Nat) : cutS s l q = .str (s.extract l q) := by
  obtain ⟨⟨a⟩⟩ := s
  show forceT ((a.drop l).take (q - l)) (fun r => V.str ⟨⟨r⟩⟩) = _
  rw [forceT_eq, ba_cut]
end Go.As
/- Operations that leave the memory as it is: what the machine says is what the program does. -/
namespace Go.As
section
variable {P : Program} {m : M} {t : Tr V} {nt : Nat} {a : Act}
theorem opX_VR (ht : TR m t nt a.tmps) {x : Operand} {v : V} (h : opX x t = some v) : VR m v (a.eval x) := by
  cases x with
  | tmp i =>
    obtain ⟨y, hy, hv⟩ := ht.2 i v h
    show VR m v (a.tmps.getD i undef)
    rw [Array.getD_eq_getD_getElem?, hy]; exact hv
  | const c =>
    have : ofVal c = some v := by
      simp only [opX] at h
      cases hc : ofVal c with
      | none => rw [hc] at h; cases h
      | some u => rw [hc] at h; exact h
    exact (ofVal_VR this m).1
  | global g => cases h
  | func f => cases h; exact .fn rfl (fun k v x hv => by simp at hv) rfl (fun k v x hv => by simp at hv)
theorem evs_VRs (ht : TR m t nt a.tmps) : ∀ {l : List Operand} {vs : List V}, evs l t = some vs → VRs m vs (l.map a.eval) := by
  intro l vs h
  obtain ⟨h1, h2⟩ := mapM'_spec (f := fun x => opX x t) h
  refine ⟨by simpa using h1, fun k v x hv hx => ?_⟩
  rw [List.getElem?_map] at hx
  cases hl : l[k]? with
  | none => rw [hl] at hx; cases hx
  | some y =>
    rw [hl] at hx; cases hx
    obtain ⟨c, hc, hs⟩ := h2 k y hl
    rw [hv] at hc; cases hc
    exact opX_VR ht hs
theorem evp_VRs (ht : TR m t nt a.tmps) : ∀ {l : List (Nat × Operand)} {vs : List (Nat × V)}, evp l t = some vs →
    vs.map (·.1) = l.map (·.1) ∧ VRs m (vs.map (·.2)) (l.map fun p => a.eval p.2) := by
  intro l vs h
  induction l generalizing vs with
  | nil => simp only [evp, mapM'] at h; cases h; exact ⟨rfl, VRs.nil m⟩
  | cons p l ih =>
    have h' : mapM' (fun p : Nat × Operand => match opX p.2 t with | some v => some (p.1, v) | none => none) (p :: l) = some vs := h
    simp only [mapM'] at h'
    cases hp : opX p.2 t with
    | none => rw [hp] at h'; cases h'
    | some v =>
      rw [hp] at h'
      dsimp only at h'
      cases hl : mapM' (fun p : Nat × Operand => match opX p.2 t with | some v => some (p.1, v) | none => none) l with
      | none => rw [hl] at h'; cases h'
      | some r =>
        rw [hl] at h'; cases h'
        obtain ⟨h1, h2⟩ := ih hl
        exact ⟨by simp [h1], h2.cons (opX_VR ht hp)⟩
theorem run_und {d : TypeDesc} {ty : TypeId} (h : P.underlying ty = some d) (w : World) : (underlying ty).run P w = .ok d w := by
  unfold underlying; rw [Sem.run_bind, run_program, Result.andThen_ok, h]; rfl
theorem run_size {n : Nat} {ty : TypeId} (h : sizeOf? P ty = some n) (w : World) : (sizeOf ty).run P w = .ok n w := by
  unfold sizeOf? at h
  cases hi : P.info? ty with
  | none => rw [hi] at h; cases h
  | some i =>
    rw [hi] at h; cases h
    unfold sizeOf typeInfo
    simp only [Sem.run_bind, run_program, Result.andThen_ok, hi]
    rfl
theorem run_zero {z : V} {ty : TypeId} (h : zero? P ty = some z) : ∃ x, ofVal x = some z ∧ ∀ w, (zeroValue ty).run P w = .ok x w := by
  unfold zero? at h
  cases hi : P.info? ty with
  | none => rw [hi] at h; cases h
  | some i =>
    rw [hi] at h
    dsimp only at h
    cases hz : i.zero with
    | none => rw [hz] at h; cases h
    | some x =>
      rw [hz] at h
      refine ⟨x, h, fun w => ?_⟩
      unfold zeroValue typeInfo
      simp only [Sem.run_bind, run_program, Result.andThen_ok, hi, Sem.run_pure, hz]
theorem run_isAgg {b : Bool} {ty : TypeId} (h : isAgg? P ty = some b) (w : World) : (isAgg ty).run P w = .ok b w := by
  unfold isAgg? at h
  cases hd : P.underlying ty with
  | none => rw [hd] at h; cases h
  | some d =>
    rw [hd] at h
    unfold isAgg
    rw [Sem.run_bind, run_und hd, Result.andThen_ok]
    cases d <;> cases h <;> rfl
theorem cut_VRs {l r : List V} {xs : List Value} {i n : Nat} (hl : VRs m l xs) (h : cut l i n = some r) : VRs m r ((xs.drop i).take n) ∧ r.length = n ∧ r = (l.drop i).take n := by
  unfold cut at h
  dsimp only at h
  split at h
  · rename_i hn; cases h; exact ⟨(hl.drop i).take n, hn, rfl⟩
  · cases h
theorem part_run {ty : TypeId} {l : List V} {cs : Array Value} {off : Nat} {v : V} (hl : VRs m l cs.toList) (h : part? P ty l off = some v) (w : World) :
    ∃ x, (part ty cs off).run P w = .ok x w ∧ VR m v x := by
  unfold part? at h
  cases ha : isAgg? P ty with
  | none => rw [ha] at h; cases h
  | some b =>
    cases hs : sizeOf? P ty with
    | none => rw [ha, hs] at h; cases b <;> cases h
    | some n =>
      rw [ha, hs] at h
      unfold part
      rw [Sem.run_bind, run_isAgg ha, Result.andThen_ok]
      cases b with
      | true =>
        dsimp only at h
        cases hc : cut l off n with
        | none => rw [hc] at h; cases h
        | some r =>
          rw [hc] at h; cases h
          refine ⟨.agg (cs.extract off (off + n)), ?_, ?_⟩
          · simp only [if_true, Sem.run_bind, run_size hs, Result.andThen_ok, Sem.run_pure]
          · refine VRs.agg ?_
            rw [Array.toList_extract]
            have := (cut_VRs hl hc).1
            rw [List.extract_eq_take_drop, show off + n - off = n from by omega]
            exact this
      | false =>
        dsimp only at h
        obtain ⟨x, hx, hv⟩ := hl.get h
        have hx' : cs[off]? = some x := by simpa using hx
        refine ⟨x, ?_, hv⟩
        simp only [Bool.false_eq_true, if_false, hx', Sem.run_pure]
theorem val_run {s : Sem Value} {x : Value} {w w' : World} (h : s.run P w = .ok x w') : (do pure (Next.value (← s)) : Sem Next).run P w = .ok (.value x) w' := by
  rw [Sem.run_bind, h]; rfl
theorem foldl_set (off : Nat) : ∀ (l : List Value) (j : Nat) (cs : Array Value), ((l.zipIdx j).foldl (fun cs (p : Value × Nat) => cs.setIfInBounds (off + p.2) p.1) cs).size = cs.size ∧
    ∀ k, ((l.zipIdx j).foldl (fun cs (p : Value × Nat) => cs.setIfInBounds (off + p.2) p.1) cs)[k]? = if off + j ≤ k ∧ k < off + j + l.length ∧ k < cs.size then l[k - (off + j)]? else cs[k]? := by
  intro l
  induction l with
  | nil => intro j cs; exact ⟨rfl, fun k => by rw [if_neg (by simp only [List.length_nil]; omega)]; rfl⟩
  | cons v l ih =>
    intro j cs
    obtain ⟨h1, h2⟩ := ih (j + 1) (cs.setIfInBounds (off + j) v)
    rw [List.zipIdx_cons, List.foldl_cons]
    refine ⟨by rw [h1]; simp, fun k => ?_⟩
    rw [h2 k, Array.size_setIfInBounds]
    by_cases hk : k = off + j
    · subst hk
      rw [if_neg (by omega)]
      by_cases hlt : off + j < cs.size
      · rw [Array.getElem?_setIfInBounds_self_of_lt hlt, if_pos (by simp only [List.length_cons]; omega)]; simp
      · rw [if_neg (by omega), Array.getElem?_eq_none (by simpa using hlt), Array.getElem?_eq_none (by omega)]
    · rw [Array.getElem?_setIfInBounds_ne (Ne.symm hk)]
      by_cases hr : off + j ≤ k ∧ k < off + j + (v :: l).length ∧ k < cs.size
      · rw [if_pos hr, if_pos (by simp only [List.length_cons] at hr; omega), show k - (off + j) = (k - (off + (j + 1))) + 1 from by omega]
        simp
      · rw [if_neg hr, if_neg (by simp only [List.length_cons] at hr; omega)]
theorem paste_get {l r l' : List V} {i : Nat} (h : paste l i r = some l') : l'.length = l.length ∧ i + r.length ≤ l.length ∧ ∀ k, l'[k]? = if i ≤ k ∧ k < i + r.length then r[k - i]? else l[k]? := by
  unfold paste at h
  split at h
  · rename_i hle
    cases h
    refine ⟨by simp; omega, hle, fun k => ?_⟩
    rw [List.append_assoc]
    by_cases h1 : k < i
    · rw [List.getElem?_append_left (by simp; omega), if_neg (by omega), List.getElem?_take, if_pos h1]
    · rw [List.getElem?_append_right (by simp; omega)]
      have hlen : (l.take i).length = i := by simp; omega
      rw [hlen]
      by_cases h2 : k < i + r.length
      · rw [List.getElem?_append_left (by omega), if_pos (by omega)]
      · rw [List.getElem?_append_right (by omega), if_neg (by omega), List.getElem?_drop]
        congr 1; omega
  · cases h
theorem fill_VRs {pl : Nat → Option (Nat × Nat)} : ∀ {vs : List (Nat × V)} {xs : List (Nat × Value)} {l r : List V} {cs : Array Value}, vs.map (·.1) = xs.map (·.1) → VRs m (vs.map (·.2)) (xs.map (·.2)) →
    VRs m l cs.toList → l.all one = true → fill? pl l vs = some r →
    ∃ cs', Instr.fill pl cs xs = some cs' ∧ VRs m r cs'.toList ∧ r.all one = true := by
  intro vs
  induction vs with
  | nil =>
    intro xs l r cs h1 h2 hl ho h
    simp only [fill?] at h
    cases h
    have : xs = [] := by have := h2.1; simp at this; exact List.eq_nil_of_length_eq_zero this.symm
    subst this
    exact ⟨cs, rfl, hl, ho⟩
  | cons p vs ih =>
    intro xs l r cs h1 h2 hl ho h
    cases xs with
    | nil => have := h2.1; simp at this
    | cons q xs =>
      obtain ⟨i, v⟩ := p
      obtain ⟨i', x⟩ := q
      simp only [List.map_cons, List.cons.injEq] at h1
      obtain ⟨rfl, h1⟩ := h1
      have hv : VR m v x := h2.2 0 v x (by simp) (by simp)
      have h2' : VRs m (vs.map (·.2)) (xs.map (·.2)) := ⟨by have := h2.1; simp at this; simpa using this, fun k u y hu hy => h2.2 (k + 1) u y (by simpa using hu) (by simpa using hy)⟩
      simp only [fill?] at h
      simp only [Instr.fill]
      cases hpl : pl i with
      | none => rw [hpl] at h; cases h
      | some os =>
        obtain ⟨off, size⟩ := os
        rw [hpl] at h
        dsimp only at h ⊢
        split at h
        · rename_i hsz
          obtain ⟨hsz, hvone⟩ := hsz
          have hvc := hv.cells hvone
          have hxs : x.cells.size = size := by have := hvc.1; simp at this; omega
          cases hp : paste l off v.cells with
          | none => rw [hp] at h; cases h
          | some l' =>
            rw [hp] at h
            dsimp only at h
            obtain ⟨g1, g2, g3⟩ := paste_get hp
            have hlc : l.length = cs.size := by have := hl.1; simpa using this
            have hcond : ¬ (x.cells.size ≠ size ∨ off + x.cells.size > cs.size) := by
              intro hc
              rcases hc with hc | hc
              · exact hc hxs
              · omega
            have hcond' : (decide (x.cells.size ≠ size) || decide (off + x.cells.size > cs.size)) = false := by
              rw [Bool.eq_false_iff]; intro hc; apply hcond; simpa using hc
            rw [show (if (decide (x.cells.size ≠ size) || decide (off + x.cells.size > cs.size)) = true then none else Instr.fill pl (Array.foldl (fun cs (p : Value × Nat) => cs.setIfInBounds (off + p.2) p.1) cs x.cells.zipIdx) xs) = Instr.fill pl (Array.foldl (fun cs (p : Value × Nat) => cs.setIfInBounds (off + p.2) p.1) cs x.cells.zipIdx) xs from by rw [hcond']; rfl]
            have hfold : Array.foldl (fun cs (p : Value × Nat) => cs.setIfInBounds (off + p.2) p.1) cs x.cells.zipIdx = (x.cells.toList.zipIdx 0).foldl (fun cs (p : Value × Nat) => cs.setIfInBounds (off + p.2) p.1) cs := by
              rw [← Array.foldl_toList]; simp
            rw [hfold]
            obtain ⟨f1, f2⟩ := foldl_set off x.cells.toList 0 cs
            refine ih h1 h2' ?_ ?_ h
            · refine ⟨by rw [g1]; simp [f1, hlc], fun k u y hu hy => ?_⟩
              rw [g3] at hu
              have hy' : (((x.cells.toList.zipIdx 0).foldl (fun cs (p : Value × Nat) => cs.setIfInBounds (off + p.2) p.1) cs))[k]? = some y := by simpa using hy
              rw [f2] at hy'
              have hxl : x.cells.toList.length = v.cells.length := hvc.1.symm
              by_cases hr : off ≤ k ∧ k < off + v.cells.length
              · rw [if_pos hr] at hu
                rw [if_pos (by omega)] at hy'
                exact hvc.2 (k - off) u y hu (by rw [Nat.add_zero] at hy'; exact hy')
              · rw [if_neg hr] at hu
                rw [if_neg (by omega)] at hy'
                exact hl.2 k u y hu (by simpa using hy')
            · refine List.all_eq_true.2 fun u hu => ?_
              obtain ⟨k, hk, hku⟩ := List.mem_iff_getElem.1 hu
              have := g3 k
              rw [List.getElem?_eq_getElem hk, hku] at this
              split at this
              · exact List.all_eq_true.1 hvone u (List.mem_of_getElem? this.symm)
              · exact List.all_eq_true.1 ho u (List.mem_of_getElem? this.symm)
        · cases h
end
end Go.As
/- Operations that leave the memory as it is, one by one. -/
namespace Go.As
section
variable {P : Program} {m : M} {t : Tr V} {nt : Nat} {a : Act} {o : Oper}
def Gives (P : Program) (a : Act) (o : Oper) (m : M) (v : V) : Prop := ∃ x, VR m v x ∧ ∀ w, (execOp a.eval o).run P w = .ok (.value x) w
theorem pick_sound {c x y : Operand} (ht : TR m t nt a.tmps) (ho : o.op = .pick c x y) {f : Tr V → Option V} (hc : qPick (opX c) (opX x) (opX y) = .q f) {v : V} (hf : f t = some v) : Gives P a o m v := by
  unfold qPick at hc; cases hc
  dsimp only at hf
  cases hcv : opX c t with
  | none => rw [hcv] at hf; cases hf
  | some u =>
    rw [hcv] at hf
    cases u with
    | bool b =>
      have hb := opX_VR ht hcv
      cases hbv : a.eval c <;> rw [hbv] at hb <;> cases hb
      cases b with
      | true => exact ⟨_, opX_VR ht hf, fun w => by simp [execOp, ho, hbv, asBool]⟩
      | false => exact ⟨_, opX_VR ht hf, fun w => by simp [execOp, ho, hbv, asBool]⟩
    | _ => cases hf
theorem places_run {ty : TypeId} {pl : Nat → Option (Nat × Nat)} (h : places P ty = some pl) {cells : Array Value} {xs : List (Nat × Value)} {cs' : Array Value} (hfill : Instr.fill pl cells xs = some cs') (w : World) (xv : Value)
    (hz : (zeroValue ty).run P w = .ok xv w) (hxc : xv.cells = cells) : (Instr.build ty xs.toArray).run P w = .ok (.agg cs') w := by
  unfold places at h
  cases hd : P.underlying ty with
  | none => rw [hd] at h; cases h
  | some d =>
    rw [hd] at h
    unfold Instr.build
    simp only [Sem.run_bind, hz, Result.andThen_ok, run_und hd]
    cases d <;> try (cases h)
    case array len e =>
      dsimp only at h
      cases hs : sizeOf? P e with
      | none => rw [hs] at h; cases h
      | some n =>
        rw [hs] at h; cases h
        simp only [Sem.run_bind, run_size hs, Result.andThen_ok, hxc, hfill]
        rfl
    case struct fs =>
      dsimp only at h
      cases hm : mapM' (fieldPl P) fs.toList with
      | none => rw [hm] at h; cases h
      | some l =>
        rw [hm] at h; cases h
        have key : ∀ (fl : List Field) (l : List (Nat × Nat)), mapM' (fieldPl P) fl = some l →
            (fl.mapM (m := Sem) (fun f => do pure (f.offset, ← sizeOf f.type))).run P w = .ok l w := by
          intro fl
          induction fl with
          | nil => intro l h; simp only [mapM'] at h; cases h; rfl
          | cons f fl ih =>
            intro l h
            simp only [mapM', fieldPl] at h
            cases hs : sizeOf? P f.type with
            | none => rw [hs] at h; cases h
            | some n =>
              rw [hs] at h
              dsimp only at h
              cases hr : mapM' (fieldPl P) fl with
              | none => rw [hr] at h; cases h
              | some r =>
                rw [hr] at h; cases h
                rw [List.mapM_cons]
                simp only [Sem.run_bind, run_size hs, Result.andThen_ok, Sem.run_pure, ih _ hr]
        have hpl := key fs.toList l hm
        have hA : (fs.mapM (m := Sem) (fun f => do pure (f.offset, ← sizeOf f.type))).run P w = .ok l.toArray w := by
          rw [Array.mapM_eq_mapM_toList]
          simp only [Sem.run_map, hpl, Result.andThen_ok]
        simp only [Sem.run_bind, hA, Result.andThen_ok, hxc]
        have : (fun i : Nat => l.toArray[i]?) = fun i : Nat => l[i]? := by funext i; simp
        rw [this, hfill]
        rfl
theorem build_sound {ty : TypeId} {ps : Array (Nat × Operand)} (ht : TR m t nt a.tmps) (ho : o.op = .build ty ps) {f : Tr V → Option V} (hc : qBuild P ty ps.toList = .q f) {v : V} (hf : f t = some v) : Gives P a o m v := by
  unfold qBuild at hc
  cases hz : zero? P ty with
  | none => rw [hz] at hc; cases hc
  | some z =>
    cases hp : places P ty with
    | none => rw [hz, hp] at hc; cases hc
    | some pl =>
      rw [hz, hp] at hc; cases hc
      dsimp only at hf
      cases hv : evp ps.toList t with
      | none => rw [hv] at hf; cases hf
      | some vs =>
        rw [hv] at hf
        dsimp only at hf
        cases hfl : fill? pl z.cells vs with
        | none => rw [hfl] at hf; cases hf
        | some cs =>
          rw [hfl] at hf; cases hf
          obtain ⟨x, hx2, hxr⟩ := run_zero hz
          obtain ⟨_, hzc, hzo⟩ := ofVal_VR hx2 m
          obtain ⟨h1, h2⟩ := evp_VRs ht hv
          obtain ⟨cs', hfill, hr, _⟩ := fill_VRs (xs := ps.toList.map fun p => (p.1, a.eval p.2)) (by rw [List.map_map]; exact h1) (by rw [List.map_map]; exact h2) hzc hzo hfl
          refine ⟨.agg cs', hr.agg, fun w => ?_⟩
          have := places_run hp hfill w x (hxr w) rfl
          simp only [execOp, ho]
          refine val_run ?_
          have hps : (ps.map fun (i, x) => (i, a.eval x)) = (ps.toList.map fun p => (p.1, a.eval p.2)).toArray := by
            apply Array.ext'; simp
          rw [hps]; exact this
theorem nil_sound {x : Operand} (ht : TR m t nt a.tmps) (ho : o.op = .nilCheck x) {f : Tr V → Option V} (hc : qNil (opX x) = .q f) {v : V} (hf : f t = some v) : Gives P a o m v := by
  unfold qNil at hc; cases hc
  dsimp only at hf
  cases hx : opX x t with
  | none => rw [hx] at hf; cases hf
  | some u =>
    rw [hx] at hf
    have hu := opX_VR ht hx
    cases u <;> first | (cases hf; done) | skip
    case ptr b o' =>
      cases hf
      cases hbv : a.eval x <;> rw [hbv] at hu <;> cases hu
      rename_i h
      exact ⟨_, .ptr h, fun w => by simp [execOp, ho, hbv]⟩
    case fn g p q =>
      cases hf
      cases hbv : a.eval x <;> rw [hbv] at hu <;> cases hu
      rename_i la ha lb hb
      exact ⟨_, .fn la ha lb hb, fun w => by simp [execOp, ho, hbv]⟩
    case yld l =>
      cases hf
      cases hbv : a.eval x <;> rw [hbv] at hu <;> cases hu
      rename_i h
      exact ⟨_, .yld h, fun w => by simp [execOp, ho, hbv]⟩
    case rptr cs =>
      cases hf
      generalize hbv : a.eval x = y at hu
      cases hu with
      | rptr h =>
        have h0 := h
        cases h with
        | rptr h1 h2 h3 => exact ⟨_, .rptr h0, fun w => by simp [execOp, ho, hbv]⟩
theorem bin_sound {op : BinOp} {ty ty' : TypeId} {x y : Operand} (ht : TR m t nt a.tmps) (ho : o.op = .binOp op ty x y ty') {f : Tr V → Option V} (hc : qBin P op ty x y = .q f) {v : V} (hf : f t = some v) :
    ∀ w, ∃ z, VR m v z ∧ (execOp a.eval o).run P w = .ok (.value z) w := by
  intro w
  unfold qBin at hc; cases hc
  dsimp only at hf
  have hex : ∀ z, (do eqGuard op ty x y (a.eval x) (a.eval y); binOp op ty (a.eval x) (a.eval y) : Sem Value).run P w = .ok z w → (execOp a.eval o).run P w = .ok (.value z) w := by
    intro z hz
    simp only [execOp, ho]
    exact val_run hz
  cases hx : opX x t with
  | none => rw [hx] at hf; cases hf
  | some u =>
    cases hy : opX y t with
    | none =>
      rw [hx, hy] at hf
      cases u <;> first | (cases hf; done) | skip
      rename_i k n; cases k <;> cases hf
    | some u' =>
      rw [hx, hy] at hf
      have hu := opX_VR ht hx
      have hu' := opX_VR ht hy
      have slowcase : slow P op ty x y u u' = some v → ∃ z, VR m v z ∧ (execOp a.eval o).run P w = .ok (.value z) w := by
        intro hs
        obtain ⟨z, hz, hv⟩ := slow_run hs hu hu' w
        exact ⟨z, hv, hex z hz⟩
      split at hf
      · rename_i p q h1 h2
        cases h1; cases h2
        split at hf
        · rename_i v' hfast
          cases hf
          cases hxv : a.eval x <;> rw [hxv] at hu <;> cases hu
          cases hyv : a.eval y <;> rw [hyv] at hu' <;> cases hu'
          obtain ⟨z, hz, hv⟩ := fast_run hfast m P ty x y w
          exact ⟨z, hv, hex z (by rw [hxv, hyv]; exact hz)⟩
        · exact slowcase hf
      · rename_i p q h1 h2
        cases h1; cases h2
        split at hf
        · rename_i v' hfast
          cases hf
          cases hxv : a.eval x <;> rw [hxv] at hu <;> cases hu
          cases hyv : a.eval y <;> rw [hyv] at hu' <;> cases hu'
          obtain ⟨z, hz, hv⟩ := strOp_run hfast m P ty x y w
          exact ⟨z, hv, hex z (by rw [hxv, hyv]; exact hz)⟩
        · exact slowcase hf
      · rename_i h1 h2
        cases h1; cases h2
        exact slowcase hf
      · cases hf
theorem un_sound {op : UnOp} {ty : TypeId} {x : Operand} (ht : TR m t nt a.tmps) (ho : o.op = .unOp op ty x) {f : Tr V → Option V} (hc : qUn op P (opX x) = .q f) {v : V} (hf : f t = some v) : Gives P a o m v := by
  unfold qUn at hc; cases hc
  dsimp only at hf
  cases hx : opX x t with
  | none => rw [hx] at hf; cases hf
  | some u =>
    rw [hx] at hf; dsimp only at hf
    cases hp : plain1 u with
    | none => rw [hp] at hf; cases hf
    | some x' =>
      rw [hp] at hf; dsimp only at hf
      cases hq : pureP P (Op.unary op x') with
      | none => rw [hq] at hf; cases hf
      | some z =>
        rw [hq] at hf
        have := plain1_VR hp (opX_VR ht hx)
        refine ⟨z, (ofVal_VR hf m).1, fun w => ?_⟩
        simp only [execOp, ho]
        refine val_run ?_
        rw [this]; exact pureP_run hq w
theorem conv_sound {s d : TypeId} {x : Operand} (ht : TR m t nt a.tmps) (ho : o.op = .convert s d x) {f : Tr V → Option V} (hc : qConv P s d (opX x) = .q f) {v : V} (hf : f t = some v) : Gives P a o m v := by
  unfold qConv at hc; cases hc
  dsimp only at hf
  cases hx : opX x t with
  | none => rw [hx] at hf; cases hf
  | some u =>
    rw [hx] at hf; dsimp only at hf
    cases hp : plain1 u with
    | none => rw [hp] at hf; cases hf
    | some x' =>
      rw [hp] at hf; dsimp only at hf
      cases hq : pureP P (convert s d x') with
      | none => rw [hq] at hf; cases hf
      | some z =>
        rw [hq] at hf
        have := plain1_VR hp (opX_VR ht hx)
        refine ⟨z, (ofVal_VR hf m).1, fun w => ?_⟩
        simp only [execOp, ho]
        refine val_run ?_
        rw [this]; exact pureP_run hq w
theorem func_sound {f : FuncId} {p q : Array Operand} (ht : TR m t nt a.tmps) (ho : o.op = .makeFunc (.func f) p q) {g : Tr V → Option V} (hc : qFunc f p.toList q.toList = .q g) {v : V} (hf : g t = some v) : Gives P a o m v := by
  unfold qFunc at hc; cases hc
  dsimp only at hf
  cases hp : evs p.toList t with
  | none => rw [hp] at hf; cases hf
  | some l =>
    cases hq : evs q.toList t with
    | none => rw [hp, hq] at hf; cases hf
    | some r =>
      rw [hp, hq] at hf; cases hf
      have h1 := evs_VRs ht hp
      have h2 := evs_VRs ht hq
      refine ⟨.func (.func f) (p.map a.eval) (q.map a.eval), ?_, fun w => by simp only [execOp, ho]; exact val_run rfl⟩
      exact .fn (by have := h1.1; simpa using this) (fun k v x hv hx => h1.2 k v x hv (by simpa using hx)) (by have := h2.1; simpa using this) (fun k v x hv hx => h2.2 k v x hv (by simpa using hx))
theorem fieldAddr_sound {ty : TypeId} {x : Operand} {i : Nat} (ht : TR m t nt a.tmps) (ho : o.op = .fieldAddr ty x i) {f : Tr V → Option V} (hc : qFieldAddr P ty (opX x) i = .q f) {v : V} (hf : f t = some v) : Gives P a o m v := by
  unfold qFieldAddr at hc
  split at hc
  · rename_i fs hd
    split at hc
    · rename_i fl hfl
      split at hc
      · rename_i n hs
        cases hc
        dsimp only at hf
        cases hx : opX x t with
        | none => rw [hx] at hf; cases hf
        | some u =>
          rw [hx] at hf
          have hu := opX_VR ht hx
          cases u <;> first | (cases hf; done) | skip
          case ptr b o' =>
            cases hf
            cases hbv : a.eval x <;> rw [hbv] at hu <;> cases hu
            rename_i r s h
            refine ⟨.pointer (some ⟨r, s.1 + (o' + fl.offset), none⟩), .ptr h, fun w => ?_⟩
            simp only [execOp, ho]
            refine val_run ?_
            unfold Instr.fieldAt Instr.sureAddr fieldPlace
            simp only [Sem.run_bind, run_und hd, Result.andThen_ok, hfl, hbv, Sem.run_pure, run_size hs]
            rw [if_neg (Nat.succ_ne_zero n)]
            simp only [Sem.run_pure, Result.andThen_ok, Addr.add_plain, Nat.add_assoc]
          case rptr cs =>
            cases hf
            generalize hbv : a.eval x = y at hu
            cases hu with
            | rptr h =>
              have h0 := h
              cases h with
              | @rptr _ r q p h1 h2 h3 =>
                refine ⟨.pointer (some ⟨r, q + fl.offset, none⟩), .rptr (h0.drop _), fun w => ?_⟩
                simp only [execOp, ho]
                refine val_run ?_
                unfold Instr.fieldAt Instr.sureAddr fieldPlace
                simp only [Sem.run_bind, run_und hd, Result.andThen_ok, hfl, hbv, Sem.run_pure, run_size hs]
                rw [if_neg (Nat.succ_ne_zero n)]
                simp only [Sem.run_pure, Result.andThen_ok, Addr.add_plain]
      · cases hc
    · cases hc
  · cases hc
theorem field_sound {ty : TypeId} {x : Operand} {i : Nat} (ht : TR m t nt a.tmps) (ho : o.op = .field ty x i) {f : Tr V → Option V} (hc : qField P ty (opX x) i = .q f) {v : V} (hf : f t = some v) :
    ∀ w, ∃ z, VR m v z ∧ (execOp a.eval o).run P w = .ok (.value z) w := by
  intro w
  unfold qField at hc
  split at hc
  · rename_i fs hd
    split at hc
    · rename_i fl hfl
      cases hc
      dsimp only at hf
      cases hx : opX x t with
      | none => rw [hx] at hf; cases hf
      | some u =>
        rw [hx] at hf
        have hu := opX_VR ht hx
        cases u <;> first | (cases hf; done) | skip
        cases hbv : a.eval x <;> rw [hbv] at hu <;> cases hu
        rename_i cs l h
        obtain ⟨z, hz, hv⟩ := part_run (VRs.of_array l h) hf w
        refine ⟨z, hv, ?_⟩
        simp only [execOp, ho]
        refine val_run ?_
        unfold Instr.field
        simp only [Sem.run_bind, run_und hd, Result.andThen_ok, hfl, hbv, asAgg, Sem.run_pure]
        exact hz
    · cases hc
  · cases hc
end
end Go.As
/- Operations that leave the memory as it is, one by one: slices, indexes, what is read. -/
namespace Go.As
section
variable {P : Program} {m : M} {t : Tr V} {nt : Nat} {a : Act} {o : Oper}
theorem extract_sound {x : Operand} {i : Nat} (ht : TR m t nt a.tmps) (ho : o.op = .extract x i) {f : Tr V → Option V} (hc : qExtract (opX x) i = .q f) {v : V} (hf : f t = some v) : Gives P a o m v := by
  unfold qExtract at hc; cases hc
  dsimp only at hf
  cases hx : opX x t with
  | none => rw [hx] at hf; cases hf
  | some u =>
    rw [hx] at hf
    have hu := opX_VR ht hx
    cases u <;> first | (cases hf; done) | skip
    rename_i vs
    have hf' : vs[i]? = some v := hf
    cases hbv : a.eval x <;> rw [hbv] at hu <;> cases hu
    rename_i xs l h
    obtain ⟨z, hz, hv⟩ := (VRs.of_array l h).get hf'
    have hz' : xs[i]? = some z := by simpa using hz
    exact ⟨z, hv, fun w => by simp only [execOp, ho]; exact val_run (by simp [Instr.extract, hbv, hz'])⟩
theorem max_sound {x y : Operand} {as : Array Operand} {ts : Array TypeId} (ht : TR m t nt a.tmps) (ho : o.op = .call { callee := .builtin .max, args := as, argTypes := ts }) (has : as.toList = [x, y])
    {f : Tr V → Option V} (hc : qMax (opX x) (opX y) = .q f) {v : V} (hf : f t = some v) : Gives P a o m v := by
  unfold qMax at hc; cases hc
  dsimp only at hf
  split at hf
  · rename_i k p k' q h1 h2
    cases hf
    have hu := opX_VR ht h1
    have hu' := opX_VR ht h2
    cases hxv : a.eval x <;> rw [hxv] at hu <;> cases hu
    cases hyv : a.eval y <;> rw [hyv] at hu' <;> cases hu'
    have has' : as = #[x, y] := by apply Array.ext'; simpa using has
    refine ⟨.int k (if q > p then q else p), ?_, fun w => ?_⟩
    · rw [ilt_eq]
      by_cases h : p < q
      · rw [if_pos h, decide_eq_true h]; exact .int _ _
      · rw [if_neg h, decide_eq_false h]; exact .int _ _
    · subst has'
      simp [execOp, ho, resolve, invoke, builtin, Builtin.max_, Builtin.max2, hxv, hyv]
  · cases hf
theorem min_sound {x y : Operand} {as : Array Operand} {ts : Array TypeId} (ht : TR m t nt a.tmps) (ho : o.op = .call { callee := .builtin .min, args := as, argTypes := ts }) (has : as.toList = [x, y])
    {f : Tr V → Option V} (hc : qMin (opX x) (opX y) = .q f) {v : V} (hf : f t = some v) : Gives P a o m v := by
  unfold qMin at hc; cases hc
  dsimp only at hf
  split at hf
  · rename_i k p k' q h1 h2
    cases hf
    have hu := opX_VR ht h1
    have hu' := opX_VR ht h2
    cases hxv : a.eval x <;> rw [hxv] at hu <;> cases hu
    cases hyv : a.eval y <;> rw [hyv] at hu' <;> cases hu'
    have has' : as = #[x, y] := by apply Array.ext'; simpa using has
    refine ⟨.int k (if q < p then q else p), ?_, fun w => ?_⟩
    · rw [ilt_eq]
      by_cases h : q < p
      · rw [if_pos h, decide_eq_true h]; exact .int _ _
      · rw [if_neg h, decide_eq_false h]; exact .int _ _
    · subst has'
      simp [execOp, ho, resolve, invoke, builtin, Builtin.min_, Builtin.min2, hxv, hyv]
  · cases hf
theorem max3_sound {x y z : Operand} {as : Array Operand} {ts : Array TypeId} (ht : TR m t nt a.tmps) (ho : o.op = .call { callee := .builtin .max, args := as, argTypes := ts }) (has : as.toList = [x, y, z])
    {f : Tr V → Option V} (hc : qMax3 (opX x) (opX y) (opX z) = .q f) {v : V} (hf : f t = some v) : Gives P a o m v := by
  unfold qMax3 at hc; cases hc
  dsimp only at hf
  split at hf
  · rename_i k p k' q k'' r h1 h2 h3
    cases hf
    have hu := opX_VR ht h1
    have hu' := opX_VR ht h2
    have hu'' := opX_VR ht h3
    cases hxv : a.eval x <;> rw [hxv] at hu <;> cases hu
    cases hyv : a.eval y <;> rw [hyv] at hu' <;> cases hu'
    cases hzv : a.eval z <;> rw [hzv] at hu'' <;> cases hu''
    have has' : as = #[x, y, z] := by apply Array.ext'; simpa using has
    refine ⟨.int k (if r > (if q > p then q else p) then r else (if q > p then q else p)), ?_, fun w => ?_⟩
    · by_cases h : q > p
      · have e : ilt p q = true := by rw [ilt_eq]; exact decide_eq_true h
        rw [if_pos h]; simp only [e]
        by_cases h2 : r > q
        · have e2 : ilt q r = true := by rw [ilt_eq]; exact decide_eq_true h2
          rw [if_pos h2]; simp only [e2]; exact .int _ _
        · have e2 : ilt q r = false := by rw [ilt_eq]; exact decide_eq_false h2
          rw [if_neg h2]; simp only [e2]; exact .int _ _
      · have e : ilt p q = false := by rw [ilt_eq]; exact decide_eq_false h
        rw [if_neg h]; simp only [e]
        by_cases h2 : r > p
        · have e2 : ilt p r = true := by rw [ilt_eq]; exact decide_eq_true h2
          rw [if_pos h2]; simp only [e2]; exact .int _ _
        · have e2 : ilt p r = false := by rw [ilt_eq]; exact decide_eq_false h2
          rw [if_neg h2]; simp only [e2]; exact .int _ _
    · subst has'
      simp [execOp, ho, resolve, invoke, builtin, Builtin.max_, Builtin.max2, hxv, hyv, hzv]
  · cases hf
theorem min3_sound {x y z : Operand} {as : Array Operand} {ts : Array TypeId} (ht : TR m t nt a.tmps) (ho : o.op = .call { callee := .builtin .min, args := as, argTypes := ts }) (has : as.toList = [x, y, z])
    {f : Tr V → Option V} (hc : qMin3 (opX x) (opX y) (opX z) = .q f) {v : V} (hf : f t = some v) : Gives P a o m v := by
  unfold qMin3 at hc; cases hc
  dsimp only at hf
  split at hf
  · rename_i k p k' q k'' r h1 h2 h3
    cases hf
    have hu := opX_VR ht h1
    have hu' := opX_VR ht h2
    have hu'' := opX_VR ht h3
    cases hxv : a.eval x <;> rw [hxv] at hu <;> cases hu
    cases hyv : a.eval y <;> rw [hyv] at hu' <;> cases hu'
    cases hzv : a.eval z <;> rw [hzv] at hu'' <;> cases hu''
    have has' : as = #[x, y, z] := by apply Array.ext'; simpa using has
    refine ⟨.int k (if r < (if q < p then q else p) then r else (if q < p then q else p)), ?_, fun w => ?_⟩
    · by_cases h : q < p
      · have e : ilt q p = true := by rw [ilt_eq]; exact decide_eq_true h
        rw [if_pos h]; simp only [e]
        by_cases h2 : r < q
        · have e2 : ilt r q = true := by rw [ilt_eq]; exact decide_eq_true h2
          rw [if_pos h2]; simp only [e2]; exact .int _ _
        · have e2 : ilt r q = false := by rw [ilt_eq]; exact decide_eq_false h2
          rw [if_neg h2]; simp only [e2]; exact .int _ _
      · have e : ilt q p = false := by rw [ilt_eq]; exact decide_eq_false h
        rw [if_neg h]; simp only [e]
        by_cases h2 : r < p
        · have e2 : ilt r p = true := by rw [ilt_eq]; exact decide_eq_true h2
          rw [if_pos h2]; simp only [e2]; exact .int _ _
        · have e2 : ilt r p = false := by rw [ilt_eq]; exact decide_eq_false h2
          rw [if_neg h2]; simp only [e2]; exact .int _ _
    · subst has'
      simp [execOp, ho, resolve, invoke, builtin, Builtin.min_, Builtin.min2, hxv, hyv, hzv]
  · cases hf
theorem indexAddr_sound {ty : TypeId} {x i : Operand} (ht : TR m t nt a.tmps) (ho : o.op = .indexAddr ty x i) {f : Tr V → Option V} (hc : qIndexAddr P ty (opX x) (opX i) = .q f) {v : V} (hf : f t = some v) : Gives P a o m v := by
  unfold qIndexAddr at hc
  split at hc
  · rename_i len el hd
    split at hc
    · rename_i sz hs
      cases hc
      dsimp only at hf
      split at hf
      · rename_i k n b o' hi hx
        split at hf
        · rename_i hlt
          cases hf
          have hu := opX_VR ht hi
          have hu' := opX_VR ht hx
          cases hiv : a.eval i <;> rw [hiv] at hu <;> cases hu
          cases hxv : a.eval x <;> rw [hxv] at hu' <;> cases hu'
          rename_i r s h
          have hlt' : n < len := by simpa [Nat.blt_eq] using hlt
          refine ⟨.pointer (some ⟨r, s.1 + (o' + n * sz), none⟩), .ptr h, fun w => ?_⟩
          simp only [execOp, ho]
          refine val_run ?_
          unfold Instr.indexAt
          simp only [Sem.run_bind, hiv, asIntOf, Sem.run_pure, Result.andThen_ok, run_und hd, hxv, Instr.sureAddr]
          rw [if_pos (by constructor; exact Int.natCast_nonneg n; exact Int.ofNat_lt.2 hlt')]
          simp only [Sem.run_bind, run_size hs, Result.andThen_ok, Sem.run_pure, Addr.add_plain]
          rw [show (Int.ofNat n).toNat = n from rfl, Nat.add_assoc]
        · cases hf
      · rename_i k n cs hi hx
        split at hf
        · rename_i hlt
          cases hf
          have hu := opX_VR ht hi
          have hu' := opX_VR ht hx
          cases hiv : a.eval i <;> rw [hiv] at hu <;> cases hu
          generalize hxv : a.eval x = y at hu'
          cases hu' with
          | rptr h =>
            have h0 := h
            cases h with
            | @rptr _ r q p h1 h2 h3 =>
              have hlt' : n < len := by simpa [Nat.blt_eq] using hlt
              refine ⟨.pointer (some ⟨r, q + n * sz, none⟩), .rptr (h0.drop _), fun w => ?_⟩
              simp only [execOp, ho]
              refine val_run ?_
              unfold Instr.indexAt
              simp only [Sem.run_bind, hiv, asIntOf, Sem.run_pure, Result.andThen_ok, run_und hd, hxv, Instr.sureAddr]
              rw [if_pos (by constructor; exact Int.natCast_nonneg n; exact Int.ofNat_lt.2 hlt')]
              simp only [Sem.run_bind, run_size hs, Result.andThen_ok, Sem.run_pure, Addr.add_plain]
              rw [show (Int.ofNat n).toNat = n from rfl]
        · cases hf
      · cases hf
    · cases hc
  · rename_i el hd
    split at hc
    · rename_i sz hs
      cases hc
      dsimp only at hf
      split at hf
      · rename_i k n b o' len cap ex hi hx
        split at hf
        · rename_i hlt
          cases hf
          have hu := opX_VR ht hi
          have hu' := opX_VR ht hx
          cases hiv : a.eval i <;> rw [hiv] at hu <;> cases hu
          cases hxv : a.eval x <;> rw [hxv] at hu' <;> cases hu'
          case sl0 => exact absurd hlt (by simp [Nat.blt_eq])
          rename_i cap' r s h _
          have hlt' : n < len := by simpa [Nat.blt_eq] using hlt
          refine ⟨.pointer (some ⟨r, s.1 + (o' + n * sz), none⟩), .ptr h, fun w => ?_⟩
          simp only [execOp, ho]
          refine val_run ?_
          unfold Instr.indexAt
          simp only [Sem.run_bind, hiv, asIntOf, Sem.run_pure, Result.andThen_ok, run_und hd, hxv]
          rw [if_pos (by constructor; exact Int.natCast_nonneg n; exact Int.ofNat_lt.2 hlt')]
          simp only [Sem.run_bind, run_size hs, Result.andThen_ok, Sem.run_pure, Addr.add_plain]
          rw [show (Int.ofNat n).toNat = n from rfl, Nat.add_assoc]
        · cases hf
      · rename_i k n ex sz' len g hi hx
        split at hf
        · rename_i hlt
          rw [Bool.and_eq_true] at hlt
          obtain ⟨hlt, hsz⟩ := hlt
          have hsz' := Nat.eq_of_beq_eq_true hsz
          subst hsz'
          cases hf
          have hu := opX_VR ht hi
          have hu' := opX_VR ht hx
          cases hiv : a.eval i <;> rw [hiv] at hu <;> cases hu
          generalize hxv : a.eval x = y at hu'
          cases hu' with
          | rsl h =>
            have hlt' : n < len := by simpa [Nat.blt_eq] using hlt
            obtain ⟨r, q, cap, rfl, hp⟩ := h.elem hlt'
            refine ⟨.pointer (some ⟨r, q + n * sz', none⟩), .rptr hp, fun w => ?_⟩
            simp only [execOp, ho]
            refine val_run ?_
            unfold Instr.indexAt
            simp only [Sem.run_bind, hiv, asIntOf, Sem.run_pure, Result.andThen_ok, run_und hd, hxv]
            rw [if_pos (by constructor; exact Int.natCast_nonneg n; exact Int.ofNat_lt.2 hlt')]
            simp only [Sem.run_bind, run_size hs, Result.andThen_ok, Sem.run_pure, Addr.add_plain]
            rw [show (Int.ofNat n).toNat = n from rfl]
        · cases hf
      · cases hf
    · cases hc
  · cases hc
theorem index_sound {ty : TypeId} {x i : Operand} (ht : TR m t nt a.tmps) (ho : o.op = .index ty x i) {f : Tr V → Option V} (hc : qIndex P ty (opX x) (opX i) = .q f) {v : V} (hf : f t = some v) :
    ∀ w, ∃ z, VR m v z ∧ (execOp a.eval o).run P w = .ok (.value z) w := by
  intro w
  unfold qIndex at hc
  split at hc
  · rename_i len el hd
    split at hc
    · rename_i sz hs
      cases hc
      dsimp only at hf
      split at hf
      · rename_i k n cs hi hx
        split at hf
        · rename_i hlt
          have hu := opX_VR ht hi
          have hu' := opX_VR ht hx
          cases hiv : a.eval i <;> rw [hiv] at hu <;> cases hu
          cases hxv : a.eval x <;> rw [hxv] at hu' <;> cases hu'
          rename_i xs l h
          have hlt' : n < len := by simpa [Nat.blt_eq] using hlt
          obtain ⟨z, hz, hv⟩ := part_run (VRs.of_array l h) hf w
          refine ⟨z, hv, ?_⟩
          simp only [execOp, ho]
          refine val_run ?_
          unfold Instr.index
          simp only [Sem.run_bind, hiv, asIntOf, Sem.run_pure, Result.andThen_ok, run_und hd, hxv]
          rw [if_pos (by constructor; exact Int.natCast_nonneg n; exact Int.ofNat_lt.2 hlt')]
          simp only [Sem.run_bind, run_size hs, Result.andThen_ok]
          exact hz
        · cases hf
      · cases hf
    · cases hc
  · rename_i hd
    cases hc
    dsimp only at hf
    split at hf
    · rename_i k n s hi hx
      split at hf
      · rename_i bb hb
        cases hf
        have hu := opX_VR ht hi
        have hu' := opX_VR ht hx
        cases hiv : a.eval i <;> rw [hiv] at hu <;> cases hu
        cases hxv : a.eval x <;> rw [hxv] at hu' <;> cases hu'
        refine ⟨_, .int _ _, ?_⟩
        simp only [execOp, ho]
        refine val_run ?_
        unfold Instr.index
        simp only [Sem.run_bind, hiv, asIntOf, Sem.run_pure, Result.andThen_ok, run_und hd, hxv]
        rw [if_pos (show (0 : Int) ≤ Int.ofNat n from Int.natCast_nonneg n), show (Int.ofNat n).toNat = n from rfl, hb]
        rfl
      · cases hf
    · cases hf
  · cases hc
theorem bnd_run (ht : TR m t nt a.tmps) {x : Operand} {most q : Nat} (h : bnd (opX x) most t = some q) : q ≤ most ∧ ∀ (most' : Nat) (code : BoundsCode) (w : World), most ≤ most' → (Instr.sliceBound (a.eval x) most' code).run P w = .ok q w := by
  unfold bnd at h
  split at h
  · rename_i k n hx
    split at h
    · rename_i hle
      cases h
      have hle' : q ≤ most := Nat.le_of_ble_eq_true hle
      have hu := opX_VR ht hx
      cases hxv : a.eval x <;> rw [hxv] at hu <;> cases hu
      refine ⟨hle', fun most' code w hm => ?_⟩
      unfold Instr.sliceBound
      simp only [Sem.run_bind, asIntOf, Sem.run_pure, Result.andThen_ok]
      rw [if_pos (by constructor; exact Int.natCast_nonneg q; exact Int.ofNat_le.2 (Nat.le_trans hle' hm))]
      rfl
    · cases h
  · cases h
theorem bounds_run {isS : Bool} (ht : TR m t nt a.tmps) {lo hi mx : Option Operand} {len cap cap' l q mm more : Nat} {ex ex' : Bool} (hex : cap' = if ex = true then cap else cap + more)
    (h : bounds (lo.map opX) (hi.map opX) (mx.map opX) len cap ex t = some (l, q, mm, ex')) :
    l ≤ q ∧ ∃ mm' : Nat, (mm' = if ex' = true then mm else mm + more) ∧ ∀ w, (Instr.sliceBounds isS len cap' (lo.map a.eval) (hi.map a.eval) (mx.map a.eval)).run P w = .ok (l, q, mm') w := by
  have hcap : cap ≤ cap' := by rw [hex]; split <;> omega
  unfold bounds at h
  cases hm : sMax (mx.map opX) cap ex t with
  | none => rw [hm] at h; cases h
  | some me =>
    obtain ⟨m1, e1⟩ := me
    rw [hm] at h; dsimp only at h
    cases hq : sHi (hi.map opX) (mx.map opX) m1 len t with
    | none => rw [hq] at h; cases h
    | some q1 =>
      rw [hq] at h; dsimp only at h
      cases hl : sLo (lo.map opX) q1 t with
      | none => rw [hl] at h; cases h
      | some l1 =>
        rw [hl] at h; cases h
        have hlq : l ≤ q := by
          cases lo with
          | none => simp only [Option.map_none, sLo] at hl; cases hl; exact Nat.zero_le _
          | some y => simp only [Option.map_some, sLo] at hl; exact (bnd_run (P := P) ht hl).1
        refine ⟨hlq, ?_⟩
        cases mx with
        | none =>
          simp only [Option.map_none, sMax] at hm
          cases hm
          refine ⟨cap', hex, fun w => ?_⟩
          unfold Instr.sliceBounds
          cases hi with
          | none =>
            simp only [Option.map_none, sHi] at hq; cases hq
            cases lo with
            | none => simp only [Option.map_none, sLo] at hl; cases hl; rfl
            | some y =>
              simp only [Option.map_some, sLo] at hl
              have hy := fun code => (bnd_run (P := P) ht hl).2 len code w (Nat.le_refl _)
              simp only [Option.map_none, Option.map_some, Sem.run_bind, Sem.run_pure, Result.andThen_ok, Option.isSome_none, Bool.false_eq_true, if_false, hy]
          | some z =>
            simp only [Option.map_some, sHi] at hq
            have hz := (bnd_run (P := P) ht hq).2
            cases lo with
            | none => simp only [Option.map_none, sLo] at hl; cases hl; simp only [Option.map_none, Option.map_some, Sem.run_bind, Sem.run_pure, Result.andThen_ok, hz cap' _ w hcap]
            | some y => simp only [Option.map_some, sLo] at hl; simp only [Option.map_none, Option.map_some, Sem.run_bind, Sem.run_pure, Result.andThen_ok, hz cap' _ w hcap, (bnd_run (P := P) ht hl).2 q _ w (Nat.le_refl _)]
        | some y =>
          simp only [Option.map_some, sMax] at hm
          cases hb : bnd (opX y) cap t with
          | none => rw [hb] at hm; cases hm
          | some m2 =>
            rw [hb] at hm; cases hm
            refine ⟨mm, (if_pos rfl).symm, fun w => ?_⟩
            have hy := fun code => (bnd_run (P := P) ht hb).2 cap' code w hcap
            unfold Instr.sliceBounds
            cases hi with
            | none => simp only [Option.map_none, Option.map_some, sHi] at hq; cases hq
            | some z =>
              simp only [Option.map_some, sHi] at hq
              have hz := fun code => (bnd_run (P := P) ht hq).2 mm code w (Nat.le_refl _)
              cases lo with
              | none => simp only [Option.map_none, sLo] at hl; cases hl; simp only [Option.map_none, Option.map_some, Sem.run_bind, Sem.run_pure, Result.andThen_ok, hy, hz]
              | some x => simp only [Option.map_some, sLo] at hl; simp only [Option.map_some, Sem.run_bind, Sem.run_pure, Result.andThen_ok, hy, hz, (bnd_run (P := P) ht hl).2 q _ w (Nat.le_refl _)]
theorem bnd_le {x : X} {k n : Nat} {e : Tr V} (h : bnd x k e = some n) : n ≤ k := by
  unfold bnd at h
  split at h
  · split at h
    · rename_i hb; cases h; exact Nat.le_of_ble_eq_true hb
    · cases h
  · cases h
theorem bounds_zero {lo hi mx : Option X} {ex ex' : Bool} {e : Tr V} {l q m : Nat} (h : bounds lo hi mx 0 0 ex e = some (l, q, m, ex')) : l = 0 ∧ q = 0 ∧ m = 0 := by
  unfold bounds at h
  cases hm : sMax mx 0 ex e with
  | none => rw [hm] at h; cases h
  | some me =>
    obtain ⟨m1, e1⟩ := me
    rw [hm] at h; dsimp only at h
    have hm0 : m1 = 0 := by
      unfold sMax at hm
      split at hm
      · cases hm; rfl
      · split at hm
        · rename_i hb; cases hm; have := bnd_le hb; omega
        · cases hm
    subst hm0
    cases hq : sHi hi mx 0 0 e with
    | none => rw [hq] at h; cases h
    | some q1 =>
      rw [hq] at h; dsimp only at h
      have hq0 : q1 = 0 := by
        unfold sHi at hq
        split at hq
        · split at hq
          · cases hq; rfl
          · cases hq
        · have := bnd_le hq; omega
      subst hq0
      cases hl : sLo lo 0 e with
      | none => rw [hl] at h; cases h
      | some l1 =>
        rw [hl] at h; cases h
        refine ⟨?_, rfl, rfl⟩
        unfold sLo at hl
        split at hl
        · cases hl; rfl
        · have := bnd_le hl; omega
theorem slice_sound {ty : TypeId} {x : Operand} {lo hi mx : Option Operand} (ht : TR m t nt a.tmps) (ho : o.op = .slice ty x lo hi mx) {f : Tr V → Option V}
    (hc : qSlice P ty (opX x) (lo.map opX) (hi.map opX) (mx.map opX) = .q f) {v : V} (hf : f t = some v) : Gives P a o m v := by
  unfold qSlice at hc
  split at hc
  · rename_i el hd
    split at hc
    · rename_i sz hs
      cases hc
      dsimp only at hf
      cases hx : opX x t with
      | none => rw [hx] at hf; cases hf
      | some u =>
        rw [hx] at hf; dsimp only at hf
        have hu := opX_VR ht hx
        have hgo : ∀ z w, (Instr.slice ty (a.eval x) (lo.map a.eval) (hi.map a.eval) (mx.map a.eval)).run P w = .ok z w → (execOp a.eval o).run P w = .ok (.value z) w := by
          intro z w hz
          simp only [execOp, ho]
          refine val_run ?_
          unfold Instr.sliceAt
          simp only [Sem.run_bind, run_und hd, Result.andThen_ok]
          exact hz
        cases u <;> first | (cases hf; done) | skip
        case sl b o' len cap ex =>
          simp only [sliceAt] at hf
          cases hxv : a.eval x <;> rw [hxv] at hu <;> cases hu
          case sl0 =>
            rename_i r ad s h
            cases hb : bounds (lo.map opX) (hi.map opX) (mx.map opX) 0 0 ex t with
            | none => rw [hb] at hf; cases hf
            | some p =>
              obtain ⟨l, q, mm, ex'⟩ := p
              rw [hb] at hf; dsimp only at hf
              obtain ⟨rfl, rfl, rfl⟩ := bounds_zero hb
              obtain ⟨_, mm', hmex, hrun⟩ := bounds_run (P := P) (isS := true) (cap' := 0) (more := 0) ht (by cases ex <;> rfl) hb
              have hmm : mm' = 0 := by rw [hmex]; cases ex' <;> rfl
              subst hmm
              have hval : ∀ w, (Instr.slice ty (.slice (some ⟨r, ad, none⟩) 0 0) (lo.map a.eval) (hi.map a.eval) (mx.map a.eval)).run P w = .ok (.slice (some ⟨r, ad, none⟩) 0 0) w := fun w => by
                unfold Instr.slice
                simp only [Sem.run_bind, run_und hd, Result.andThen_ok, hrun, run_size hs, if_true]
                rfl
              cases ex' with
              | true => cases hf; exact ⟨_, .sl0 h, fun w => hgo _ w (by rw [hxv]; exact hval w)⟩
              | false => cases hf; exact ⟨_, .sl0 h, fun w => hgo _ w (by rw [hxv]; exact hval w)⟩
          rename_i cap' r s h hex0
          cases hb : bounds (lo.map opX) (hi.map opX) (mx.map opX) len cap ex t with
          | none => rw [hb] at hf; cases hf
          | some p =>
            obtain ⟨l, q, mm, ex'⟩ := p
            rw [hb] at hf; dsimp only at hf
            obtain ⟨hlq, mm', hmex, hrun⟩ := bounds_run (P := P) (isS := true) ht hex0 hb
            cases hbeq : Nat.beq mm l with
            | true =>
              have hne : mm = l := Nat.eq_of_beq_eq_true hbeq
              subst hne
              cases ex' with
              | true =>
                cases hlt : Nat.blt mm mm <;> rw [hbeq, hlt] at hf <;> cases hf
                all_goals
                  rw [if_pos rfl] at hmex
                  subst hmex
                  refine ⟨.slice (some ⟨r, s.1 + o', none⟩) (q - mm') (mm' - mm'), ?_, fun w => hgo _ w ?_⟩
                  · rw [Nat.sub_self]; exact .sl h rfl
                  · unfold Instr.slice
                    simp only [Sem.run_bind, run_und hd, Result.andThen_ok, hxv, hrun, run_size hs, if_true]
                    rfl
              | false =>
                have hf' : (match Nat.beq q mm with
                  | true => some (V.sl b (o' + mm * sz) 0 0 false)
                  | false => none) = some v := by
                  cases hlt : Nat.blt mm mm <;> rw [hbeq, hlt] at hf <;> exact hf
                cases hql : Nat.beq q mm with
                | false => rw [hql] at hf'; cases hf'
                | true =>
                  rw [hql] at hf'; cases hf'
                  have hqe : q = mm := Nat.eq_of_beq_eq_true hql
                  subst hqe
                  rw [if_neg (by decide)] at hmex
                  by_cases h0 : mm' = q
                  · subst h0
                    refine ⟨.slice (some ⟨r, s.1 + o', none⟩) 0 0, .sl0 h, fun w => hgo _ w ?_⟩
                    unfold Instr.slice
                    simp only [Sem.run_bind, run_und hd, Result.andThen_ok, hxv, hrun, run_size hs, if_true, Nat.sub_self]
                    rfl
                  · refine ⟨.slice (some ⟨r, s.1 + (o' + q * sz), none⟩) (q - q) (mm' - q), ?_, fun w => hgo _ w ?_⟩
                    · rw [Nat.sub_self]; exact .sl h (by rw [hmex, if_neg (by decide)]; omega)
                    · unfold Instr.slice
                      simp only [Sem.run_bind, run_und hd, Result.andThen_ok, hxv, hrun, run_size hs]
                      rw [if_neg h0]
                      simp only [Option.map_some, Addr.add_plain, Nat.add_assoc]
                      rfl
            | false =>
              cases hlt : Nat.blt l mm with
              | false => rw [hbeq, hlt] at hf; cases hf
              | true =>
                rw [hbeq, hlt] at hf
                cases hf
                have hlt : l < mm := by simpa [Nat.blt_eq] using hlt
                refine ⟨.slice (some ⟨r, s.1 + (o' + l * sz), none⟩) (q - l) (mm' - l), ?_, fun w => hgo _ w ?_⟩
                · exact .sl h (by rw [hmex]; split <;> omega)
                · unfold Instr.slice
                  simp only [Sem.run_bind, run_und hd, Result.andThen_ok, hxv, hrun, run_size hs]
                  rw [if_neg (by rw [hmex]; split <;> omega)]
                  simp only [Option.map_some, Addr.add_plain, Nat.add_assoc]
                  rfl
        case nils =>
          simp only [sliceAt] at hf
          cases hxv : a.eval x <;> rw [hxv] at hu <;> cases hu
          cases hb : bounds (lo.map opX) (hi.map opX) (mx.map opX) 0 0 true t with
          | none => rw [hb] at hf; cases hf
          | some p =>
            rw [hb] at hf
            split at hf
            · rename_i hp
              cases hp; cases hf
              obtain ⟨_, mm', hmex, hrun⟩ := bounds_run (P := P) (isS := true) (cap' := 0) (more := 0) ht (if_pos rfl).symm hb
              rw [if_pos rfl] at hmex
              subst hmex
              refine ⟨.slice none 0 0, .nils, fun w => hgo _ w ?_⟩
              unfold Instr.slice
              simp only [Sem.run_bind, run_und hd, Result.andThen_ok, hxv, hrun, run_size hs, if_true]
              rfl
            · cases hf
        case rsl ex sz' n g =>
          simp only [sliceAt] at hf
          cases hsz : Nat.beq sz' sz with
          | false => rw [hsz] at hf; cases hf
          | true =>
            have hsz' := Nat.eq_of_beq_eq_true hsz
            subst hsz'
            rw [hsz] at hf
            cases hb : bounds (lo.map opX) (hi.map opX) (mx.map opX) n n ex t with
            | none => rw [hb] at hf; cases hf
            | some p =>
              obtain ⟨l, q, mm, ex'⟩ := p
              rw [hb] at hf; dsimp only at hf
              cases h1 : Nat.ble l q with
              | false => rw [h1] at hf; cases hf
              | true =>
              cases h2 : Nat.ble q mm with
              | false => rw [h1, h2] at hf; cases hf
              | true =>
              rw [h1, h2] at hf
              dsimp only at hf
              cases hf
              have hlq := Nat.le_of_ble_eq_true h1
              have hqm := Nat.le_of_ble_eq_true h2
              have hmn : mm ≤ n := by
                unfold bounds at hb
                cases hm : sMax (mx.map opX) n ex t with
                | none => rw [hm] at hb; cases hb
                | some me =>
                  obtain ⟨m1, e1⟩ := me
                  rw [hm] at hb; dsimp only at hb
                  have hm1 : m1 ≤ n := by
                    unfold sMax at hm
                    split at hm
                    · cases hm; exact Nat.le_refl _
                    · split at hm
                      · rename_i hbb; cases hm; exact bnd_le hbb
                      · cases hm
                  split at hb
                  · cases hb
                  · split at hb
                    · cases hb
                    · cases hb; exact hm1
              generalize hxv : a.eval x = y at hu
              cases hu with
              | rsl h =>
                cases h with
                | rsl0 =>
                  have hq0 : q = 0 := by omega
                  have hl0 : l = 0 := by omega
                  have hm0 : mm = 0 := by omega
                  subst hq0 hl0 hm0
                  obtain ⟨_, mm', hmex, hrun⟩ := bounds_run (P := P) (isS := true) (cap' := 0) (more := 0) ht (by cases ex <;> rfl) hb
                  have hmm : mm' = 0 := by rw [hmex]; cases ex' <;> rfl
                  subst hmm
                  refine ⟨.slice none 0 0, .rsl .rsl0, fun w => hgo _ w ?_⟩
                  unfold Instr.slice
                  simp only [Sem.run_bind, run_und hd, Result.andThen_ok, hxv, hrun, run_size hs, if_true]
                  rfl
                | @rsl _ _ _ _ r q0 cap p hf0 hn he hl ho0 hx0 =>
                  obtain ⟨_, mm', hmex, hrun⟩ := bounds_run (P := P) (isS := true) (cap' := cap) (more := cap - n) ht (by cases ex with | true => rw [if_pos rfl]; exact he rfl | false => rw [if_neg (by decide)]; omega) hb
                  have hmm : mm ≤ mm' := by rw [hmex]; split <;> omega
                  have hex2 : flagOf (hi.map opX) (mx.map opX) ex mm q = true → mm' - l = q - l := by
                    intro hc
                    cases mx with
                    | some z =>
                      have hc' : Nat.beq mm q = true := hc
                      have he' : ex' = true := by
                        unfold bounds at hb
                        cases hm : sMax (Option.map opX (some z)) n ex t with
                        | none => rw [hm] at hb; cases hb
                        | some me =>
                          obtain ⟨m1, e1⟩ := me
                          rw [hm] at hb; dsimp only at hb
                          have : e1 = true := by
                            simp only [Option.map_some, sMax] at hm
                            split at hm
                            · cases hm; rfl
                            · cases hm
                          split at hb
                          · cases hb
                          · split at hb
                            · cases hb
                            · cases hb; exact this
                      rw [hmex, if_pos he', Nat.eq_of_beq_eq_true hc']
                    | none =>
                      cases hi with
                      | some z => cases hc
                      | none =>
                        have hc' : ex = true := hc
                        subst hc'
                        have hcap := he rfl
                        have hq : q = n := by
                          unfold bounds at hb
                          simp only [Option.map_none, sMax, sHi] at hb
                          split at hb
                          · cases hb
                          · cases hb; rfl
                        have hmm2 : mm' ≤ cap := by
                          rw [hmex]; split <;> omega
                        omega
                  have hfr : ∀ q1, (q - l = 0 ∨ q1 = q0 + l * sz') → FR m.fz (.rsl (flagOf (hi.map opX) (mx.map opX) ex mm q) sz' (q - l) fun i => g (l + i)) (.slice (some ⟨r, q1, none⟩) (q - l) (mm' - l)) := by
                    intro q1 hq1
                    refine .rsl hf0 (by omega) hex2 (fun i hi => hl _ (by omega)) (fun i hi k v hk => ?_) (fun i hi k v x hk hx => ?_)
                    · have := ho0 (l + i) (by omega) k v hk
                      have e : q0 + (l + i) * sz' + k = q1 + i * sz' + k := by rw [Nat.add_mul]; omega
                      rwa [e] at this
                    · have e : q0 + (l + i) * sz' + k = q1 + i * sz' + k := by rw [Nat.add_mul]; omega
                      exact hx0 (l + i) (by omega) k v x hk (by rw [e]; exact hx)
                  by_cases h0 : mm' = l
                  · refine ⟨.slice (some ⟨r, q0, none⟩) (q - l) (mm' - l), .rsl (hfr q0 (.inl (by omega))), fun w => hgo _ w ?_⟩
                    unfold Instr.slice
                    simp only [Sem.run_bind, run_und hd, Result.andThen_ok, hxv, hrun, run_size hs]
                    rw [if_pos h0]
                    rfl
                  · refine ⟨.slice (some ⟨r, q0 + l * sz', none⟩) (q - l) (mm' - l), .rsl (hfr _ (.inr rfl)), fun w => hgo _ w ?_⟩
                    unfold Instr.slice
                    simp only [Sem.run_bind, run_und hd, Result.andThen_ok, hxv, hrun, run_size hs]
                    rw [if_neg h0]
                    simp only [Option.map_some, Addr.add_plain]
                    rfl
    · cases hc
  · rename_i hd
    cases hc
    dsimp only at hf
    cases hx : opX x t with
    | none => rw [hx] at hf; cases hf
    | some u =>
      rw [hx] at hf
      have hu := opX_VR ht hx
      cases mx with
      | some z => cases u <;> cases hf
      | none =>
      cases u <;> first | (cases hf; done) | skip
      case str s =>
        dsimp only [Option.map_none] at hf
        cases hxv : a.eval x <;> rw [hxv] at hu <;> cases hu
        cases hb : bounds (lo.map opX) (hi.map opX) none s.size s.size true t with
        | none => rw [hb] at hf; cases hf
        | some p =>
          obtain ⟨l, q, mm, ex'⟩ := p
          rw [hb] at hf
          cases hf
          obtain ⟨hlq, mm', hmex, hrun⟩ := bounds_run (P := P) (isS := false) (mx := none) (cap' := s.size) (more := 0) ht (if_pos rfl).symm hb
          refine ⟨.string (s.extract l q), by rw [cutS_eq]; exact .str _, fun w => ?_⟩
          simp only [execOp, ho]
          refine val_run ?_
          unfold Instr.sliceAt
          simp only [Sem.run_bind, run_und hd, Result.andThen_ok]
          have hr := hrun w
          simp only [Option.map_none] at hr
          simp only [Option.map_none]
          unfold Instr.slice
          simp only [Sem.run_bind, run_und hd, Result.andThen_ok, hxv]
          simp only [Option.isSome_none, Bool.false_eq_true, if_false, Sem.run_bind, Sem.run_pure, Result.andThen_ok, hr]
  · rename_i n el hd
    split at hc
    · rename_i sz hs
      cases hc
      dsimp only at hf
      cases hx : opX x t with
      | none => rw [hx] at hf; cases hf
      | some u =>
        rw [hx] at hf
        have hu := opX_VR ht hx
        cases u <;> first | (cases hf; done) | skip
        case ptr b o' =>
          dsimp only at hf
          cases hxv : a.eval x <;> rw [hxv] at hu <;> cases hu
          rename_i r s h
          have hgo : ∀ z w, (Instr.sliceAt ty (a.eval x) (lo.map a.eval) (hi.map a.eval) (mx.map a.eval)).run P w = .ok z w → (execOp a.eval o).run P w = .ok (.value z) w := by
            intro z w hz
            simp only [execOp, ho]
            exact val_run hz
          cases hb : bounds (lo.map opX) (hi.map opX) (mx.map opX) n n true t with
          | none => rw [hb] at hf; cases hf
          | some p =>
            obtain ⟨l, q, mm, ex'⟩ := p
            rw [hb] at hf
            cases ex' with
            | false => cases hf
            | true =>
            dsimp only at hf
            obtain ⟨hlq, mm', hmex, hrun⟩ := bounds_run (P := P) (isS := false) (cap' := n) (more := 0) ht (if_pos rfl).symm hb
            rw [if_pos rfl] at hmex
            subst hmex
            cases hbeq : Nat.beq mm' l with
            | true =>
              have hne : mm' = l := Nat.eq_of_beq_eq_true hbeq
              rw [hbeq] at hf
              cases hf
              subst hne
              refine ⟨.slice (some ⟨r, s.1 + o', none⟩) (q - mm') (mm' - mm'), ?_, fun w => hgo _ w ?_⟩
              · rw [Nat.sub_self]; exact .sl h rfl
              · unfold Instr.sliceAt
                simp only [Sem.run_bind, run_und hd, Result.andThen_ok, hxv, Instr.sureAddr, Sem.run_pure, hrun, run_size hs, if_true]
            | false =>
              cases hlt : Nat.blt l mm' with
              | false => rw [hbeq, hlt] at hf; cases hf
              | true =>
                rw [hbeq, hlt] at hf
                cases hf
                have hlt : l < mm' := by simpa [Nat.blt_eq] using hlt
                refine ⟨.slice (some ⟨r, s.1 + (o' + l * sz), none⟩) (q - l) (mm' - l), ?_, fun w => hgo _ w ?_⟩
                · exact .sl h rfl
                · unfold Instr.sliceAt
                  simp only [Sem.run_bind, run_und hd, Result.andThen_ok, hxv, Instr.sureAddr, Sem.run_pure, hrun, run_size hs]
                  rw [if_neg (by omega)]
                  simp only [Addr.add_plain, Nat.add_assoc]
    · cases hc
  · cases hc
end
end Go.As
/- Operations that read. -/
namespace Go.As
theorem pureP_bind {α β : Type} {P : Program} {s : Sem α} {f : α → Sem β} {b : β} (h : pureP P (s >>= f) = some b) : ∃ a, pureP P s = some a ∧ pureP P (f a) = some b := by
  change pureP P (s.bind f) = some b at h
  induction s with
  | pure a => exact ⟨a, rfl, h⟩
  | program k ih =>
    have h' : pureP P ((k P).bind f) = some b := h
    obtain ⟨a, h1, h2⟩ := ih P h'
    exact ⟨a, h1, h2⟩
  | _ => simp [Sem.bind, pureP] at h
theorem findNow_same (kind : TypeDesc) (k : Value) : ∀ (es es' : List MapEntry) (i : Nat), es.map (·.key) = es'.map (·.key) →
    match Instr.findNow kind k es i with
    | none => Instr.findNow kind k es' i = none
    | some none => Instr.findNow kind k es' i = some none
    | some (some (j, _)) => ∃ e, i ≤ j ∧ es'[j - i]? = some e ∧ Instr.findNow kind k es' i = some (some (j, e.val)) := by
  intro es
  induction es with
  | nil => intro es' i h; cases es' with | nil => rfl | cons e es' => simp at h
  | cons e es ih =>
    intro es' i h
    cases es' with
    | nil => simp at h
    | cons e' es' =>
      simp only [List.map_cons, List.cons.injEq] at h
      obtain ⟨hk, h⟩ := h
      simp only [Instr.findNow, ← hk]
      cases hs : Instr.sameNow kind k e.key with
      | none => rfl
      | some b =>
        cases b with
        | true => exact ⟨e', Nat.le_refl _, by simp, rfl⟩
        | false =>
          dsimp only
          have := ih es' (i + 1) h
          cases hr : Instr.findNow kind k es (i + 1) with
          | none => rw [hr] at this; exact this
          | some r =>
            cases r with
            | none => rw [hr] at this; exact this
            | some p =>
              obtain ⟨j, v⟩ := p
              rw [hr] at this
              obtain ⟨x, h1, h2, h3⟩ := this
              exact ⟨x, by omega, by rw [show j - i = (j - (i + 1)) + 1 from by omega]; simpa using h2, h3⟩
theorem findAsking_same {P : Program} (kt : TypeId) (k : Value) : ∀ (es es' : List MapEntry) (i : Nat) (r : Option (Nat × Value)), es.map (·.key) = es'.map (·.key) → pureP P (Instr.findAsking kt k es i) = some r →
    match r with
    | none => ∀ w, (Instr.findAsking kt k es' i).run P w = .ok none w
    | some (j, _) => ∃ e, i ≤ j ∧ es'[j - i]? = some e ∧ ∀ w, (Instr.findAsking kt k es' i).run P w = .ok (some (j, e.val)) w := by
  intro es
  induction es with
  | nil =>
    intro es' i r h hp
    cases es' with
    | nil => simp only [Instr.findAsking] at hp; cases hp; exact fun w => rfl
    | cons e es' => simp at h
  | cons e es ih =>
    intro es' i r h hp
    cases es' with
    | nil => simp at h
    | cons e' es' =>
      simp only [List.map_cons, List.cons.injEq] at h
      obtain ⟨hk, h⟩ := h
      simp only [Instr.findAsking] at hp
      obtain ⟨b, h1, h2⟩ := pureP_bind hp
      rw [hk] at h1
      have hrun := fun w => pureP_run h1 w
      cases b with
      | true =>
        simp only [if_true] at h2
        cases h2
        exact ⟨e', Nat.le_refl _, by simp, fun w => by simp only [Instr.findAsking, Sem.run_bind, hrun, Result.andThen_ok, if_true]; rfl⟩
      | false =>
        simp only [Bool.false_eq_true, if_false] at h2
        have := ih es' (i + 1) r h h2
        cases r with
        | none => exact fun w => by simp only [Instr.findAsking, Sem.run_bind, hrun, Result.andThen_ok, Bool.false_eq_true, if_false]; exact this w
        | some p =>
          obtain ⟨j, v⟩ := p
          obtain ⟨x, g1, g2, g3⟩ := this
          exact ⟨x, by omega, by rw [show j - i = (j - (i + 1)) + 1 from by omega]; simpa using g2, fun w => by simp only [Instr.findAsking, Sem.run_bind, hrun, Result.andThen_ok, Bool.false_eq_true, if_false]; exact g3 w⟩
theorem findKey_same {P : Program} (kt : TypeId) (k : Value) {es es' : List MapEntry} {r : Option (Nat × Value)} (h : es.map (·.key) = es'.map (·.key)) (hp : pureP P (Instr.findKey kt k es) = some r) :
    match r with
    | none => ∀ w, (Instr.findKey kt k es').run P w = .ok none w
    | some (j, _) => ∃ e, es'[j]? = some e ∧ ∀ w, (Instr.findKey kt k es').run P w = .ok (some (j, e.val)) w := by
  unfold Instr.findKey at hp
  obtain ⟨d, h1, h2⟩ := pureP_bind hp
  have hrun := fun w => pureP_run h1 w
  have hsame := findNow_same d k es es' 0 h
  cases hf : Instr.findNow d k es 0 with
  | none =>
    rw [hf] at h2 hsame
    dsimp only at h2 hsame
    have := findAsking_same kt k es es' 0 r h h2
    cases r with
    | none => exact fun w => by simp only [Instr.findKey, Sem.run_bind, hrun, Result.andThen_ok, hsame]; exact this w
    | some p =>
      obtain ⟨j, v⟩ := p
      obtain ⟨e, _, g2, g3⟩ := this
      exact ⟨e, by simpa using g2, fun w => by simp only [Instr.findKey, Sem.run_bind, hrun, Result.andThen_ok, hsame]; exact g3 w⟩
  | some q =>
    rw [hf] at h2 hsame
    dsimp only at h2
    cases h2
    cases r with
    | none => exact fun w => by simp only [Instr.findKey, Sem.run_bind, hrun, Result.andThen_ok]; rw [show Instr.findNow d k es' 0 = some none from hsame]; rfl
    | some p =>
      obtain ⟨j, v⟩ := p
      obtain ⟨e, _, g2, g3⟩ := hsame
      exact ⟨e, by simpa using g2, fun w => by simp only [Instr.findKey, Sem.run_bind, hrun, Result.andThen_ok, g3]; rfl⟩
section
variable {base : Nat} {P : Program} {m : M} {h : H} {w : World} {t : Tr V} {nt : Nat} {a : Act} {o : Oper}
theorem HR.mapAt (hr : HR base m h w) {b r : Nat} {es : List (Value × V × Nat)} {clock : Nat} (hb : h.get b = some (.map es clock)) (hm : m b = some (r, 0, 0)) :
    ∃ a : Array MapEntry, w.heap[r]? = some (.map a clock) ∧ es.length = a.size ∧ (keysOf es).map (·.key) = a.toList.map (·.key) ∧
      ∀ (k : Nat) (e : Value × V × Nat) (x : MapEntry), es[k]? = some e → a[k]? = some x → x.key = e.1 ∧ x.born = e.2.2 ∧ VR m e.2.1 x.val := by
  obtain ⟨_, a, ho, hl, hc⟩ := hr.blk b _ r (0, 0) hb hm
  refine ⟨a, ho, hl, ?_, hc⟩
  apply List.ext_getElem? 
  intro k
  simp only [keysOf, List.map_map, List.getElem?_map]
  by_cases hk : k < es.length
  · have hka : k < a.size := by omega
    have := (hc k es[k] a[k] (List.getElem?_eq_getElem hk) (Array.getElem?_eq_getElem hka)).1
    rw [List.getElem?_eq_getElem hk, List.getElem?_eq_getElem (by simpa using hka)]
    simp [this]
  · rw [List.getElem?_eq_none (by omega), List.getElem?_eq_none (by simp; omega)]; rfl
theorem findAt_run {kt : TypeId} {k : Value} {es : List (Value × V × Nat)} {em : Bool} {res : Option Nat} (hf : findAt P em kt k es = some res) {es' : List MapEntry} (hk : (keysOf es).map (·.key) = es'.map (·.key)) :
    (∀ w, (Instr.checkKey em 10000 kt k).run P w = .ok () w) ∧
    match res with
    | none => ∀ w, (Instr.findKey kt k es').run P w = .ok none w
    | some j => ∃ e, es'[j]? = some e ∧ ∀ w, (Instr.findKey kt k es').run P w = .ok (some (j, e.val)) w := by
  unfold findAt at hf
  cases hc : pureP P (Instr.checkKey em 10000 kt k) with
  | none => rw [hc] at hf; cases hf
  | some u =>
    rw [hc] at hf; dsimp only at hf
    refine ⟨fun w => pureP_run hc w, ?_⟩
    cases hk' : pureP P (Instr.findKey kt k (keysOf es)) with
    | none => rw [hk'] at hf; cases hf
    | some r =>
      have := findKey_same kt k hk hk'
      rw [hk'] at hf
      cases r with
      | none => cases hf; exact this
      | some p => obtain ⟨j, v⟩ := p; cases hf; exact this
theorem load_at {ty : TypeId} {b p : Nat} {v : V} {r : Nat} {s : Nat × Nat} (hr : HR base m h w) (hm : m b = some (r, s)) (hl : load? P ty h b p = some v) : ∃ z, VR m v z ∧ (loadVar ty ⟨r, s.1 + p, none⟩).run P w = .ok z w := by
  unfold load? at hl
  cases ha : isAgg? P ty with
  | none => rw [ha] at hl; cases hl
  | some ag =>
    cases hs : sizeOf? P ty with
    | none => rw [ha, hs] at hl; cases ag <;> cases hl
    | some n =>
      rw [ha, hs] at hl
      unfold loadVar
      rw [Sem.run_bind, run_isAgg ha, Result.andThen_ok]
      cases hb : h.get b with
      | none => rw [hb] at hl; cases ag <;> cases hl
      | some bl =>
        rw [hb] at hl
        cases bl with
        | cells c wr g =>
          cases ag with
          | true =>
            dsimp only at hl
            cases hg : getN c n p with
            | none => rw [hg] at hl; cases hl
            | some l =>
              rw [hg] at hl; cases hl
              obtain ⟨xs, _, hv, _, hrun⟩ := hr.cells (P := P) hb hm hg
              refine ⟨.agg xs.toArray, VRs.agg (by simpa using hv), ?_⟩
              simp only [if_true, Sem.run_bind, run_size hs, Result.andThen_ok, hrun, Sem.run_pure]
          | false =>
            dsimp only at hl
            obtain ⟨_, x, hx, hv, _⟩ := hr.cell hb hm hl
            refine ⟨x, hv, ?_⟩
            simp only [Bool.false_eq_true, if_false, run_load, hx]
        | _ => cases ag <;> cases hl
theorem load_sound {ty : TypeId} {x : Operand} (hr : HR base m h w) (ht : TR m t nt a.tmps) (ho : o.op = .load ty x) {f : H → Tr V → Option V} (hc : rLoad P ty (opX x) = .r f) {v : V} (hf : f h t = some v) :
    ∃ z, VR m v z ∧ (execOp a.eval o).run P w = .ok (.value z) w := by
  have key : (∃ b p, opX x t = some (.ptr b p) ∧ load? P ty h b p = some v) ∨ ∃ cs, opX x t = some (.rptr cs) ∧ ((∃ n l, isAgg? P ty = some true ∧ sizeOf? P ty = some n ∧ pre n cs = some l ∧ v = .agg l) ∨ (isAgg? P ty = some false ∧ ∃ l, cs = v :: l)) := by
    unfold rLoad at hc
    unfold load?
    cases ha : isAgg? P ty with
    | none => rw [ha] at hc; cases hc
    | some ag =>
      cases hs : sizeOf? P ty with
      | none => rw [ha, hs] at hc; cases ag <;> cases hc
      | some n =>
        rw [ha, hs] at hc
        cases ag <;> cases hc <;> dsimp only at hf
        all_goals
          cases hx : opX x t with
          | none => rw [hx] at hf; cases hf
          | some u =>
            rw [hx] at hf
            cases u <;> first | (cases hf; done) | skip
            case ptr b p => exact .inl ⟨_, _, rfl, hf⟩
            case rptr cs =>
              dsimp only at hf
              first
                | (cases hp : pre n cs with
                  | none => rw [hp] at hf; cases hf
                  | some l => rw [hp] at hf; cases hf; exact .inr ⟨_, rfl, .inl ⟨n, l, rfl, rfl, hp, rfl⟩⟩)
                | (cases cs with
                  | nil => cases hf
                  | cons u l => cases hf; exact .inr ⟨_, rfl, .inr ⟨rfl, l, rfl⟩⟩)
  rcases key with ⟨b, p, hx, hl⟩ | ⟨cs, hx, hk⟩
  rotate_left
  · have hu := opX_VR ht hx
    generalize hbv : a.eval x = y at hu
    cases hu with
    | rptr hp =>
      cases hp with
      | @rptr _ r q p h1 h2 h3 =>
        have hz : ∃ z, VR m v z ∧ (loadVar ty ⟨r, q, none⟩).run P w = .ok z w := by
          unfold loadVar
          rcases hk with ⟨n, l, ha, hs, hpre, rfl⟩ | ⟨ha, l, rfl⟩
          · obtain ⟨g1, g2⟩ := pre_spec hpre
            obtain ⟨xs, e1, e2, e3, e4, e5⟩ := hr.row (P := P) h1 (q := q) (l := l) (fun k v hk => h2 k v (g2 k v hk)) (fun k v x hk hx => h3 k v x (g2 k v hk) hx)
            rw [g1] at e5
            refine ⟨.agg xs.toArray, VRs.agg (by simpa using e2), ?_⟩
            rw [Sem.run_bind, run_isAgg ha, Result.andThen_ok]
            simp only [if_true, Sem.run_bind, run_size hs, Result.andThen_ok, e5, Sem.run_pure]
          · obtain ⟨_, ⟨z, hz⟩, _⟩ := h2 0 v (by simp)
            obtain ⟨e, he⟩ := hr.frz _ _ h1
            refine ⟨z, (h3 0 v z (by simp) hz).vr, ?_⟩
            have hcell : w.cell? ⟨r, q, none⟩ = some z := by simp [World.cell?, he]; simpa using hz
            rw [Sem.run_bind, run_isAgg ha, Result.andThen_ok]
            simp only [Bool.false_eq_true, if_false, run_load, hcell]
        obtain ⟨z, hv, hz⟩ := hz
        refine ⟨z, hv, ?_⟩
        simp only [execOp, ho]
        refine val_run ?_
        unfold Instr.loadAt Instr.sureAddr
        simp only [Sem.run_bind, hbv, Sem.run_pure, Result.andThen_ok]
        exact hz
  have hu := opX_VR ht hx
  cases hbv : a.eval x <;> rw [hbv] at hu <;> cases hu
  rename_i r s hm
  obtain ⟨z, hv, hz⟩ := load_at hr hm hl
  refine ⟨z, hv, ?_⟩
  simp only [execOp, ho]
  refine val_run ?_
  unfold Instr.loadAt Instr.sureAddr
  simp only [Sem.run_bind, hbv, Sem.run_pure, Result.andThen_ok]
  exact hz
set_option maxRecDepth 20000 in
theorem lookup_sound {ty : TypeId} {x i : Operand} {ok : Bool} (hr : HR base m h w) (ht : TR m t nt a.tmps) (ho : o.op = .lookup ty x i ok) {f : H → Tr V → Option V} (hc : rLookup P ty (opX x) (opX i) ok = .r f) {v : V} (hf : f h t = some v) :
    ∃ z, VR m v z ∧ (execOp a.eval o).run P w = .ok (.value z) w := by
  unfold rLookup at hc
  split at hc
  · rename_i kt et hd
    split at hc
    · rename_i z hz
      cases hc
      dsimp only at hf
      split at hf
      · rename_i b k hx hi
        split at hf
        · rename_i es clock k' hb hk
          have hu := opX_VR ht hx
          have hi' := opX_VR ht hi
          cases hbv : a.eval x <;> rw [hbv] at hu <;> cases hu
          rename_i r hm
          have hkv := plain_VR hk hi'
          obtain ⟨ar, har, hlen, hkeys, hrel⟩ := hr.mapAt hb hm
          have hemp : es.isEmpty = ar.isEmpty := by
            rw [Bool.eq_iff_iff]; simp only [List.isEmpty_iff_length_eq_zero, Array.isEmpty_iff_size_eq_zero]; omega
          have hex : ∀ z, (Instr.lookup ty (.map (some r)) k' ok).run P w = .ok z w → (execOp a.eval o).run P w = .ok (.value z) w := by
            intro z hz
            simp only [execOp, ho]
            refine val_run ?_
            rw [hbv, hkv]; exact hz
          have hget : (getObj r).run P w = .ok (.map ar clock) w := by
            simp only [getObj, Sem.run, har]
          cases hfa : findAt P es.isEmpty kt k' es with
          | none => rw [hfa] at hf; cases hf
          | some res =>
            rw [hfa] at hf
            rw [hemp] at hfa
            obtain ⟨hck, hfk⟩ := findAt_run hfa hkeys
            cases res with
            | none =>
              dsimp only at hf hfk
              obtain ⟨zx, hz1, hz2⟩ := run_zero hz
              have hzv := (ofVal_VR hz1 m).1
              refine ⟨if ok = true then .tuple #[zx, .bool false] else zx, ?_, hex _ ?_⟩
              · cases ok with
                | true => cases hf; exact VRs.tup ((((VRs.nil m).cons (.bool false)).cons hzv))
                | false => cases hf; exact hzv
              · unfold Instr.lookup
                simp only [Sem.run_bind, run_und hd, Result.andThen_ok, hget, Sem.run_pure, hck, hfk, hz2]
            | some j =>
              dsimp only at hf hfk
              cases hej : es[j]? with
              | none => rw [hej] at hf; cases hf
              | some en =>
                rw [hej] at hf; dsimp only at hf
                obtain ⟨e, he, hfr⟩ := hfk
                have hev := (hrel j en e hej (by simpa using he)).2.2
                refine ⟨if ok = true then .tuple #[e.val, .bool true] else e.val, ?_, hex _ ?_⟩
                · cases ok with
                  | true => cases hf; exact VRs.tup ((((VRs.nil m).cons (.bool true)).cons hev))
                  | false => cases hf; exact hev
                · unfold Instr.lookup
                  simp only [Sem.run_bind, run_und hd, Result.andThen_ok, hget, Sem.run_pure, hck, hfr]
        · cases hf
      · cases hf
    · cases hc
  · cases hc
theorem len_sound {ty : TypeId} {x : Operand} {as : Array Operand} {ts : Array TypeId} (hr : HR base m h w) (ht : TR m t nt a.tmps) (ho : o.op = .call { callee := .builtin .len, args := as, argTypes := ts }) (has : as.toList = [x]) (hts : ts.toList = [ty])
    {f : H → Tr V → Option V} (hc : rLen P ty (opX x) = .r f) {v : V} (hf : f h t = some v) : ∃ z, VR m v z ∧ (execOp a.eval o).run P w = .ok (.value z) w := by
  have has' : as = #[x] := by apply Array.ext'; simpa using has
  have hts' : ts = #[ty] := by apply Array.ext'; simpa using hts
  subst has'; subst hts'
  have hex : ∀ z, (Builtin.len_ #[ty] o.type #[a.eval x]).run P w = .ok z w → (execOp a.eval o).run P w = .ok (.value z) w := by
    intro z hz
    simp only [execOp, ho, resolve, invoke, builtin]
    simp only [Sem.run_bind, Sem.run_pure, Result.andThen_ok]
    have : (#[x].map a.eval) = #[a.eval x] := by simp
    rw [this, hz]; rfl
  unfold rLen at hc
  split at hc
  · rename_i e hd
    cases hc; dsimp only at hf
    cases hx : opX x t with
    | none => rw [hx] at hf; cases hf
    | some u =>
      rw [hx] at hf
      have hu := opX_VR ht hx
      cases u <;> first | (cases hf; done) | skip
      case rsl ex sz n g =>
        cases hf
        generalize hbv : a.eval x = y at hu hex
        cases hu with
        | rsl h =>
          cases h with
          | _ =>
            refine ⟨_, .int _ _, hex _ ?_⟩
            unfold Builtin.len_
            simp only [Sem.run_bind, run_und hd, Result.andThen_ok, List.getElem?_toArray, List.getElem?_cons_zero]
            rfl
      all_goals
        cases hf
        cases hbv : a.eval x <;> rw [hbv] at hu <;> cases hu
        all_goals
          refine ⟨_, .int _ _, hex _ ?_⟩
          unfold Builtin.len_
          simp only [Sem.run_bind, run_und hd, Result.andThen_ok, hbv, List.getElem?_toArray, List.getElem?_cons_zero]
          rfl
  · rename_i hd
    cases hc; dsimp only at hf
    cases hx : opX x t with
    | none => rw [hx] at hf; cases hf
    | some u =>
      rw [hx] at hf
      have hu := opX_VR ht hx
      cases u <;> first | (cases hf; done) | skip
      cases hf
      cases hbv : a.eval x <;> rw [hbv] at hu <;> cases hu
      refine ⟨_, .int _ _, hex _ ?_⟩
      unfold Builtin.len_
      simp only [Sem.run_bind, run_und hd, Result.andThen_ok, hbv, List.getElem?_toArray, List.getElem?_cons_zero]
      rfl
  · rename_i k e hd
    cases hc; dsimp only at hf
    cases hx : opX x t with
    | none => rw [hx] at hf; cases hf
    | some u =>
      rw [hx] at hf
      have hu := opX_VR ht hx
      cases u <;> first | (cases hf; done) | skip
      case nilm =>
        cases hf
        cases hbv : a.eval x <;> rw [hbv] at hu <;> cases hu
        refine ⟨_, .int _ _, hex _ ?_⟩
        unfold Builtin.len_
        simp only [Sem.run_bind, run_und hd, Result.andThen_ok, hbv, List.getElem?_toArray, List.getElem?_cons_zero]
        rfl
      case map b =>
        dsimp only at hf
        split at hf
        · rename_i es clock hb
          cases hf
          cases hbv : a.eval x <;> rw [hbv] at hu <;> cases hu
          rename_i r hm
          obtain ⟨ar, har, hlen, _, _⟩ := hr.mapAt hb hm
          have hget : (getObj r).run P w = .ok (.map ar clock) w := by
            simp only [getObj, Sem.run, har]
          refine ⟨.int .i64 ar.size, by rw [hlen]; exact .int _ _, hex _ ?_⟩
          unfold Builtin.len_
          simp only [Sem.run_bind, run_und hd, Result.andThen_ok, hbv, List.getElem?_toArray, List.getElem?_cons_zero, hget]
          rfl
        · cases hf
  · cases hc
end
end Go.As
