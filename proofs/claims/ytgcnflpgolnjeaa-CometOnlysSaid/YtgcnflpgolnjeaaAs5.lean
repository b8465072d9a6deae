/- The machine that the proof runs on, part 5 of 6: texts of my own, put together by program. No statement is proved here. -/
import Derived.Test.YtgcnflpgolnjeaaAs4
set_option linter.unusedVariables false
set_option linter.unusedSimpArgs false
/- Calls and rounds carried out where they stand: what code asks, relative to where a call began. -/
namespace Go.As
structure SW (base k : Nat) (X : List Nat) (m : M) (h : H) (w : World) (m' : M) (h' : H) (w' : World) : Prop where
  same : ∀ i, i < k → i ∉ X → m' i = m i
  hr : HR base m' h' w'
  n : k ≤ h'.n
  os : w'.os = w.os
  tape : w'.tape = w.tape
  output : w'.output = w.output
  size : w.heap.size ≤ w'.heap.size
  frame : ∀ (r : Nat), r < w.heap.size → (∀ (i : Nat) (b : Blk) (s : Nat × Nat), h.get i = some b → b.wr = true → m i ≠ some (r, s)) → w'.heap[r]? = w.heap[r]?
  fresh : ∀ (i : Nat) (b : Blk) (r : Nat) (s : Nat × Nat), h'.get i = some b → b.wr = true → m' i = some (r, s) → w.heap.size ≤ r ∨ ∃ (j : Nat) (bj : Blk) (s' : Nat × Nat), h.get j = some bj ∧ bj.wr = true ∧ m j = some (r, s')
  fzx : ∀ (r : Nat) (p : Option FA), m.fz r = some p → m'.fz r = some p
  fzn : ∀ (r : Nat) (p : Option FA), m'.fz r = some p → m.fz r = some p ∨ w.heap.size ≤ r ∨ ∃ (j : Nat) (bj : Blk) (s' : Nat × Nat), h.get j = some bj ∧ bj.wr = true ∧ m j = some (r, s')
section
variable {base : Nat}
theorem SR.same {m m' : M} {h h' : H} {w w' : World} (a : SR base m h w m' h' w') : ∀ i, i < h.n → m' i = m i := by
  intro i hi
  cases hm : m i with
  | some p => exact a.ext i p hm
  | none =>
    cases hm' : m' i with
    | none => rfl
    | some p => have := (a.new i p hm' hm).1; omega
theorem SW.of_SR {m m' : M} {h h' : H} {w w' : World} (a : SR base m h w m' h' w') : SW base h.n [] m h w m' h' w' :=
  { same := fun i hi _ => a.same i hi, hr := a.hr, n := a.n, os := a.os, tape := a.tape, output := a.output, size := a.size, frame := a.frame, fresh := a.fresh, fzx := a.ext.fz, fzn := a.fzn }
theorem SW.refl {m : M} {h : H} {w : World} (hr : HR base m h w) : SW base h.n [] m h w m h w := .of_SR (.refl hr)
theorem SW.weak {k k' : Nat} {X X' : List Nat} {m m' : M} {h h' : H} {w w' : World} (a : SW base k X m h w m' h' w') (hk : k' ≤ k) (hX : ∀ i ∈ X, k' ≤ i ∨ i ∈ X') : SW base k' X' m h w m' h' w' :=
  { a with same := fun i hi hni => a.same i (by omega) (fun hc => (hX i hc).elim (fun h => absurd hi (Nat.not_lt.2 h)) hni), n := Nat.le_trans hk a.n }
theorem SW.trans {k k' : Nat} {X X' : List Nat} {m m1 m2 : M} {h h1 h2 : H} {w w1 w2 : World} (a : SW base k X m h w m1 h1 w1) (b : SW base k' X' m1 h1 w1 m2 h2 w2) (hk : k ≤ k') (hX : ∀ i ∈ X', k ≤ i ∨ i ∈ X) : SW base k X m h w m2 h2 w2 where
  same := fun i hi hni => by
    rw [b.same i (by omega) (fun hc => (hX i hc).elim (fun h => absurd hi (Nat.not_lt.2 h)) hni)]
    exact a.same i hi hni
  hr := b.hr
  fzx := fun r p hp => b.fzx r p (a.fzx r p hp)
  fzn := fun r p hp => by
    rcases b.fzn r p hp with h1 | h1 | ⟨j, bj, s', hj, hwj, hmj⟩
    · exact a.fzn r p h1
    · exact .inr (.inl (Nat.le_trans a.size h1))
    · exact .inr (a.fresh j bj r s' hj hwj hmj)
  n := Nat.le_trans hk b.n
  os := b.os.trans a.os
  tape := b.tape.trans a.tape
  output := b.output.trans a.output
  size := Nat.le_trans a.size b.size
  frame := fun r hr hno => by
    have h1r : w1.heap[r]? = w.heap[r]? := a.frame r hr hno
    rw [← h1r]
    refine b.frame r (Nat.lt_of_lt_of_le hr a.size) (fun i bi s hb hw hm => ?_)
    rcases a.fresh i bi r s hb hw hm with hlt | ⟨j, bj, s', hj, hwj, hmj⟩
    · omega
    · exact hno j bj s' hj hwj hmj
  fresh := fun i bi r s hb hw hm => by
    rcases b.fresh i bi r s hb hw hm with hlt | ⟨j, bj, s', hj, hwj, hmj⟩
    · left; have := a.size; omega
    · exact a.fresh j bj r s' hj hwj hmj
def ZR (w0 : World) : Option Nat → Option Nat
  | none => some w0.heap.size
  | some _ => none
def SatR (base k : Nat) (X : List Nat) (m0 : M) (h0 : H) (w0 : World) (ro rr : Option Nat) (s : St) (a : Act) (w : World) : Prop := ∃ m, SW base k X m0 h0 w0 m s.h w ∧ At (ZR w0 ro) base m s a w ∧ RO m ro rr
theorem SatR.step {k : Nat} {X : List Nat} {m0 : M} {h0 : H} {w0 : World} {ro rr : Option Nat} {s : St} {a : Act} {w : World} {m : M} (hsw : SW base k X m0 h0 w0 m s.h w) (hat : At (ZR w0 ro) base m s a w) (hro : RO m ro rr) {m' : M} {s' : St} {a' : Act} {w' : World}
    (hsr : SR base m s.h w m' s'.h w') (htr : TR m' s'.t s'.nt a'.tmps) (hmk : MK (ZR w0 ro) m' s'.marks a'.defers) : SatR base k X m0 h0 w0 ro rr s' a' w' :=
  ⟨m', hsw.trans (.of_SR hsr) hsw.n (fun i hi => by cases hi), ⟨hsr.hr, Nat.le_trans hat.base hsr.size, htr, hmk⟩, hro.mono hsr.ext⟩
theorem RO.same {m m' : M} {ro rr : Option Nat} (h : RO m ro rr) (hs : ∀ l, ro = some l → m' l = m l) : RO m' ro rr := by
  cases ro with
  | none => cases rr <;> first | exact h | exact h.elim
  | some l =>
    cases rr with
    | none => exact h.elim
    | some r => have h' : m l = some (r, 0, 0) := h; show m' l = some (r, 0, 0); rw [hs l rfl]; exact h'
theorem SatR.stepW {k k' : Nat} {X X' : List Nat} {m0 : M} {h0 : H} {w0 : World} {ro rr : Option Nat} {s : St} {a : Act} {w : World} {m : M} (hsw : SW base k X m0 h0 w0 m s.h w) (hat : At (ZR w0 ro) base m s a w) (hro : RO m ro rr) {m' : M} {s' : St} {a' : Act} {w' : World}
    (hsr : SW base k' X' m s.h w m' s'.h w') (hk : k ≤ k') (hX : ∀ i ∈ X', k ≤ i ∨ i ∈ X) (hrol : ∀ l, ro = some l → l < k' ∧ l ∉ X') (htr : TR m' s'.t s'.nt a'.tmps) (hmk : MK (ZR w0 ro) m' s'.marks a'.defers) : SatR base k X m0 h0 w0 ro rr s' a' w' :=
  ⟨m', hsw.trans hsr hk hX, ⟨hsr.hr, Nat.le_trans hat.base hsr.size, htr, hmk⟩, hro.same (fun l hl => hsr.same l (hrol l hl).1 (hrol l hl).2)⟩
def PostR (base k : Nat) (X : List Nat) (m0 : M) (h0 : H) (w0 : World) (ro rr : Option Nat) (Q : Ex → St → Prop) : Exit → Act → World → Prop := fun e a' w' => ∃ ex s', Q ex s' ∧ e = ex.to ∧ SatR base k X m0 h0 w0 ro rr s' a' w'
end
structure WpR (P : Program) (n0 : Nat) (X : List Nat) (ro : Option Nat) (c : Code) (s : St) (Q : Ex → St → Prop) : Prop where
  out : ∀ (base : Nat) (m0 : M) (h0 : H) (w0 : World) (rr : Option Nat) (a : Act) (w : World), SatR base n0 X m0 h0 w0 ro rr s a w → c.wpIn (rf rr) 0 P (PostR base n0 X m0 h0 w0 ro rr Q) a w
def PostW (base : Nat) (X : List Nat) (m : M) (h : H) (w : World) (K : V → H → Prop) : Ending → World → Prop := fun e w' => ∃ v h' m' x, K v h' ∧ e = .returned x ∧ SW base h.n X m h w m' h' w' ∧ VR m' v x
structure CallW (P : Program) (X : List Nat) (f : FuncId) (args : List V) (h : H) (K : V → H → Prop) : Prop where
  out : ∀ (base : Nat) (m : M) (w : World) (xs : List Value), HR base m h w → base ≤ w.heap.size → VRs m args xs →
    (∃ fn, P.funcs[f]? = some fn ∧ fn.body.isSome = true ∧ (fn.name == "runtime.NumGoroutine") = false) ∧ CallsIn Fence.wide 0 P f xs.toArray w (PostW base X m h w K)
structure YldW (P : Program) (X : List Nat) (l : Nat) (args : List V) (h : H) (K : V → H → Prop) : Prop where
  out : ∀ (base : Nat) (m : M) (w : World) (xs : List Value) (r : Nat), HR base m h w → base ≤ w.heap.size → m l = some (r, 0, 0) → VRs m args xs →
    ∃ f tmps assign body, (Instr.yield r xs.toArray).run P w = .ok (.round r f tmps assign body) w ∧ RoundIn Fence.wide 0 P r f tmps assign body w (PostW base X m h w K)
section
variable {P : Program}
theorem CallW.of_ok {X : List Nat} {f : FuncId} {args : List V} {h : H} {v : V} {h' : H} {K : V → H → Prop} (hc : CallOk P f args h v h') (hK : K v h') : CallW P X f args h K := by
  refine ⟨fun base m w xs hr hB hvs => ⟨(hc base m w xs hr hB hvs).1, CallsIn.mono (hc base m w xs hr hB hvs).2 ?_⟩⟩
  rintro e w' ⟨m', x, rfl, hs, hv⟩
  exact ⟨v, h', m', x, hK, rfl, (SW.of_SR hs).weak (Nat.le_refl _) (fun i hi => by cases hi), hv⟩
theorem CallW.mono {X : List Nat} {f : FuncId} {args : List V} {h : H} {K K' : V → H → Prop} (hc : CallW P X f args h K) (hk : ∀ v h', K v h' → K' v h') : CallW P X f args h K' := by
  refine ⟨fun base m w xs hr hB hvs => ⟨(hc.out base m w xs hr hB hvs).1, CallsIn.mono (hc.out base m w xs hr hB hvs).2 ?_⟩⟩
  rintro e w' ⟨v, h', m', x, h1, h2⟩
  exact ⟨v, h', m', x, hk _ _ h1, h2⟩
def FinK (P : Program) (fn : Func) (K : V → H → Prop) (ex : Ex) (s : St) : Prop := (match ex with | .exit _ => False | _ => True) ∧ som (shutAll s.h s.marks) fun h2 => som (mapM' (fetch P s.t h2) fn.results.toList) fun vs => som (one? vs) fun v => K v h2
structure Ext0 (m m' : M) : Prop where
  at' : ∀ (i : Nat) (p : Nat × Nat × Nat), m i = some p → m' i = some p
  fz : ∀ (r : Nat) (p : FA), m.fz r = some (some p) → m'.fz r = some (some p)
theorem Ext0.refl (m : M) : Ext0 m m := ⟨fun _ _ h => h, fun _ _ h => h⟩
theorem Ext0.trans {a b c : M} (h : Ext0 a b) (k : Ext0 b c) : Ext0 a c := ⟨fun i p hp => k.at' i p (h.at' i p hp), fun r p hp => k.fz r p (h.fz r p hp)⟩
theorem FR.mono0 {f f' : FZ} (e : ∀ r (p : FA), f r = some (some p) → f' r = some (some p)) {v : V} {x : Value} (h : FR f v x) : FR f' v x := by
  induction h with
  | bool b => exact .bool b
  | int k n => exact .int k n
  | str s => exact .str s
  | nilp => exact .nilp
  | nils => exact .nils
  | nilm => exact .nilm
  | nilf => exact .nilf
  | rsl hf hn he hl ho _ ih => exact .rsl (e _ _ hf) hn he hl ho (fun i hi k v x hv hx => ih i hi k v x hv hx)
  | rsl0 => exact .rsl0
  | rptr hf ho _ ih => exact .rptr (e _ _ hf) ho (fun k v x hv hx => ih k v x hv hx)
theorem VR.mono0 {m m' : M} (e : Ext0 m m') {v : V} {x : Value} (h : VR m v x) : VR m' v x := by
  induction h with
  | bool b => exact .bool b
  | int k n => exact .int k n
  | str s => exact .str s
  | ptr h => exact .ptr (e.at' _ _ h)
  | nilp => exact .nilp
  | sl h he => exact .sl (e.at' _ _ h) he
  | sl0 h => exact .sl0 (e.at' _ _ h)
  | nils => exact .nils
  | map h => exact .map (e.at' _ _ h)
  | nilm => exact .nilm
  | fn la _ lb _ iha ihb => exact .fn la (fun k v x hv hx => iha k v x hv hx) lb (fun k v x hv hx => ihb k v x hv hx)
  | yld h => exact .yld (e.at' _ _ h)
  | nilf => exact .nilf
  | agg l _ ih => exact .agg l (fun k v x hv hx => ih k v x hv hx)
  | tup l _ ih => exact .tup l (fun k v x hv hx => ih k v x hv hx)
  | rsl h => exact .rsl (h.mono0 e.fz)
  | rptr h => exact .rptr (h.mono0 e.fz)
theorem TR.mono0 {m m' : M} (e : Ext0 m m') {t : Tr V} {nt : Nat} {a : Array Value} (h : TR m t nt a) : TR m' t nt a :=
  ⟨h.1, fun i v hv => let ⟨x, hx, hr⟩ := h.2 i v hv; ⟨x, hx, hr.mono0 e⟩⟩
theorem BR.mono0 {m m' : M} (e : Ext0 m m') {s : Nat × Nat} {o : Option Obj} {b : Blk} (h : BR m s o b) : BR m' s o b := by
  cases b with
  | cells c w g => obtain ⟨a, t, lo, hi, ho, hc, hg⟩ := h; exact ⟨a, t, lo, hi, ho, fun k v hv => let ⟨h1, ⟨x, hx, hr⟩, h2⟩ := hc k v hv; ⟨h1, ⟨x, hx, hr.mono0 e⟩, h2⟩, hg⟩
  | map es c => obtain ⟨hs, a, ho, hl, hc⟩ := h; exact ⟨hs, a, ho, hl, fun k en x he hx => let ⟨h1, h2, h3⟩ := hc k en x he hx; ⟨h1, h2, h3.mono0 e⟩⟩
  | loop l => obtain ⟨hs, r, ho, h1, h2, h3, h4, h5, h6, h7⟩ := h; exact ⟨hs, r, ho, h1, h2, h3, h4, h5, e.at' _ _ h6, h7.mono0 e⟩
  | defd d => exact h
  | iter b since seen last => obtain ⟨hs, hl, r, h1, h2⟩ := h; exact ⟨hs, hl, r, e.at' _ _ h1, h2⟩
  | iter0 => exact h
  | siter => exact h
  | dead => trivial
def M.drop (m : M) (r : Nat) : M := ⟨m.pl, fun r' => if r' = r then none else m.fz r'⟩
theorem M.drop_ne {m : M} {r r' : Nat} (h : r' ≠ r) : (m.drop r).fz r' = m.fz r' := if_neg h
theorem M.drop_same {m : M} {r : Nat} : (m.drop r).fz r = none := if_pos rfl
theorem M.drop_some {m : M} {r r' : Nat} {p : Option FA} (h : (m.drop r).fz r' = some p) : r' ≠ r ∧ m.fz r' = some p := by
  by_cases he : r' = r
  · subst he; rw [M.drop_same] at h; cases h
  · rw [M.drop_ne he] at h; exact ⟨he, h⟩
theorem M.drop_ext {m : M} {r : Nat} (h : m.fz r = some none) : Ext0 m (m.drop r) := ⟨fun _ _ h => h, fun r' p hp => by rw [M.drop_ne (fun he => by subst he; rw [h] at hp; cases hp)]; exact hp⟩
theorem MK.drop {Z : Option Nat} {m : M} {r : Nat} {l : List Nat} {ds : List Deferred} (h : MK Z m l ds) (hn : ∀ d ∈ ds, d ≠ { target := .collected r, args := #[] }) : MK Z (m.drop r) l ds := by
  induction h with
  | nil => exact .nil
  | cons hm hz hn2 _ ih => exact .cons hm hz hn2 (ih (fun d hd => hn d (List.mem_cons_of_mem _ hd)))
  | @skip r' l ds hz hf hn2 _ ih => exact .skip hz (by rw [M.drop_ne (fun he => by subst he; exact hn _ (List.mem_cons_self ..) rfl)]; exact hf) hn2 (ih (fun d hd => hn d (List.mem_cons_of_mem _ hd)))
theorem SW.loose {base k : Nat} {X : List Nat} {m0 m : M} {h0 h : H} {w0 w : World} (a : SW base k X m0 h0 w0 m h w) (h00 : ∀ r p, m0.fz r = some p → r < w0.heap.size) {r : Nat} (hr0 : w0.heap.size ≤ r) (hf : m.fz r = some none) : SW base k X m0 h0 w0 (m.drop r) h (w.putObj r (.deferred none)) where
  same := a.same
  hr := {
    blk := fun i b r' s hi hm => by
      have hm' : m i = some (r', s) := hm
      have hb := a.hr.blk i b r' s hi hm'
      by_cases he : r' = r
      · subst he
        have ho : w.heap[r']? = some (.deferred (some [])) := a.hr.frz _ _ hf
        cases hw : b.wr with
        | true => have := a.hr.nfz i b r' s hi hw hm'; rw [hf] at this; cases this
        | false =>
          cases b with
          | cells c w g => obtain ⟨_, _, _, _, h1, _⟩ := hb; rw [ho] at h1; cases h1
          | dead => trivial
          | _ => cases hw
      · rw [World.putObj_heap_other he]; exact hb.mono0 (M.drop_ext hf)
    inj := a.hr.inj
    own := a.hr.own
    rng := fun i r' s hm => by rw [World.putObj_size]; exact a.hr.rng i r' s hm
    lt := a.hr.lt
    dom := a.hr.dom
    frz := fun r' p hp => by
      obtain ⟨h1, h2⟩ := M.drop_some hp
      rw [World.putObj_heap_other h1]; exact a.hr.frz r' p h2
    nfz := fun i b r' s hi hw hm => by
      by_cases he : r' = r
      · subst he; exact M.drop_same
      · rw [M.drop_ne he]; exact a.hr.nfz i b r' s hi hw hm }
  n := a.n
  os := a.os
  tape := a.tape
  output := a.output
  size := by rw [World.putObj_size]; exact a.size
  frame := fun r' hlt hno => by rw [World.putObj_heap_other (by omega)]; exact a.frame r' hlt hno
  fresh := a.fresh
  fzx := fun r' p hp => by
    have := h00 r' p hp
    rw [M.drop_ne (by omega)]; exact a.fzx r' p hp
  fzn := fun r' p hp => a.fzn r' p (M.drop_some hp).2
theorem shut_soundW {F : Fence} {n base k : Nat} {X : List Nat} {m0 : M} {h0 : H} {w0 : World} (h00 : ∀ r p, m0.fz r = some p → r < w0.heap.size) {h' : H} : ∀ {m : M} {marks : List Nat} {defers : List Deferred}, MK (ZR w0 none) m marks defers → ∀ {h : H} {w : World}, shutAll h marks = some h' → SW base k X m0 h0 w0 m h w →
    ∃ m' w', SW base k X m0 h0 w0 m' h' w' ∧ Ext0 m m' ∧ ∀ fn tmps R, LeavesIn F n P fn tmps R [] .returning w' → LeavesInM F n P fn tmps R defers .returning w := by
  have key : ∀ (defers : List Deferred) (m : M) (marks : List Nat), MK (ZR w0 none) m marks defers → ∀ {h : H} {w : World}, shutAll h marks = some h' → SW base k X m0 h0 w0 m h w →
    ∃ m' w', SW base k X m0 h0 w0 m' h' w' ∧ Ext0 m m' ∧ ∀ fn tmps R, LeavesIn F n P fn tmps R [] .returning w' → LeavesInM F n P fn tmps R defers .returning w := by
    intro defers
    induction defers with
    | nil =>
      intro m marks hmk h w hs hsw
      cases hmk
      cases hs
      exact ⟨m, w, hsw, .refl m, fun _ _ _ h => h⟩
    | cons d ds ih =>
      intro m marks hmk h w hs hsw
      cases hmk with
      | @cons i r l _ hm hz hn hrest =>
        have hs' : (match h.get i with | some (.defd false) => shutAll (h.put i (.defd true)) l | _ => none) = some h' := hs
        split at hs'
        · rename_i hg
          obtain ⟨_, ho⟩ := hsw.hr.blk i _ r (0, 0) hg hm
          have ho' : w.heap[r]? = some (.deferred (some [])) := ho
          have hlt := hsw.hr.rng i r _ hm
          have hput : SR base m h w m (h.put i (.defd true)) (w.putObj r (.deferred none)) :=
            SR.put hsw.hr hg rfl hm ⟨rfl, World.putObj_heap_same hlt⟩ (fun r' h => World.putObj_heap_other h) World.putObj_size rfl rfl rfl
          obtain ⟨m', w', hsw', he, hL⟩ := ih m l hrest hs' (hsw.trans (.of_SR hput) hsw.n (fun i hi => by cases hi))
          exact ⟨m', w', hsw', he, fun fn tmps R hLI => ⟨by simp, .inl ⟨r, _, rfl, run_takeDeferred ho', hL fn tmps R hLI⟩⟩⟩
        · cases hs'
      | @skip r _ _ hz hf hn hrest =>
        obtain ⟨z, hz1, hz2⟩ := hz
        have hz3 : w0.heap.size = z := Option.some.inj hz1
        have ho' : w.heap[r]? = some (.deferred (some [])) := hsw.hr.frz _ _ hf
        obtain ⟨m', w', hsw', he, hL⟩ := ih (m.drop r) marks (hrest.drop hn) hs (hsw.loose h00 (by omega) hf)
        exact ⟨m', w', hsw', (M.drop_ext hf).trans he, fun fn tmps R hLI => ⟨by simp, .inl ⟨r, _, rfl, run_takeDeferred ho', hL fn tmps R hLI⟩⟩⟩
  intro m marks defers hmk h w hs hsw
  exact key defers m marks hmk hs hsw
theorem CallW.inline {X : List Nat} {f : FuncId} {fn : Func} {c : Code} (hfn : P.funcs[f]? = some fn) (hb : fn.body = some c) (hname : (fn.name == "runtime.NumGoroutine") = false) {args : List V} {h : H} {K : V → H → Prop} (hnt : args.length ≤ fn.ntmps)
    (hwp : WpR P h.n X none c ⟨ofL args 0, fn.ntmps, [], h⟩ (FinK P fn K)) : CallW P X f args h K := by
  refine ⟨fun base m w xs hr hB hvs => ⟨⟨fn, hfn, by rw [hb]; rfl, hname⟩, ?_⟩⟩
  refine callsIn_of_wp_marks hfn hb trivial ?_
  have hlen : xs.length = args.length := hvs.1.symm
  have hat : At (ZR w none) base m ⟨ofL args 0, fn.ntmps, [], h⟩ { tmps := xs.toArray ++ Array.replicate (fn.ntmps - xs.toArray.size) undef, defers := [] } w := by
    refine ⟨hr, hB, ⟨?_, fun i v hi => ?_⟩, .nil⟩
    · simp; omega
    · dsimp only at hi ⊢
      rw [get_ofL, if_pos (Nat.zero_le _), Nat.sub_zero] at hi
      obtain ⟨x, hx, hv⟩ := hvs.get hi
      have hlt : i < xs.length := (List.getElem?_eq_some_iff.1 hx).1
      exact ⟨x, by rw [Array.getElem?_append_left (by simpa using hlt)]; simpa using hx, hv⟩
  refine wpIn_mono (hwp.out base m h w none _ w ⟨m, (SW.refl hr).weak (Nat.le_refl _) (fun i hi => by cases hi), hat, trivial⟩) ?_
  rintro e a' w' ⟨ex, s', ⟨hex, hfin⟩, rfl, m', hsw, hat', _⟩
  obtain ⟨h2, hsh, hfin⟩ := som_ex hfin
  obtain ⟨vs, hvs', hfin⟩ := som_ex hfin
  obtain ⟨v, h1, hK⟩ := som_ex hfin
  obtain ⟨m2, w2, hsw2, he2, hL⟩ := shut_soundW (P := P) (F := Fence.wide) (n := 0) (fun r p hp => (hr.frz r p hp).lt) hat'.mks hsh hsw
  obtain ⟨x, hx, hvx⟩ := results_sound (fn := fn) hsw2.hr (hat'.tr.mono0 he2) hvs' h1
  have hend : LeavesInM Fence.wide 0 P fn a'.tmps (PostW base X m h w K) a'.defers .returning w' :=
    hL fn _ _ ⟨x, hx, v, h2, m2, x, hK, rfl, hsw2, hvx⟩
  cases ex with
  | normal => exact hend
  | ret => exact hend
  | exit id => exact hex.elim
theorem YldW.inline {X : List Nat} {l : Nat} {args : List V} {h : H} {K : V → H → Prop} {L : Lp} (hg : h.get l = some (.loop L)) (hstL : L.state = .ready) {t : Tr V} (hset : setAll L.nt L.tmps L.params args = some t)
    (hwp : WpR P h.n X (some l) L.assign ⟨t, L.nt, [], h⟩ (fun ex s1 => ex = .normal ∧ ∃ L1, s1.h.get l = some (.loop L1) ∧ L1.state = .ready ∧ WpR P h.n X (some l) L.body ⟨s1.t, s1.nt, s1.marks, s1.h.put l (.loop { L1 with state := .busy })⟩
      (fun ex2 s2 => ∃ v h', endRound l ex2 s2.h = some (.val v h') ∧ K v h'))) : YldW P X l args h K := by
  refine ⟨fun base m w xs r hr hB hm hvs => ?_⟩
  obtain ⟨R, ho, hst, hpd, hps, has, hbd, hdf, htr⟩ := loop_at hr hg hm
  obtain ⟨hlen, htr'⟩ := setAll_sound _ _ _ _ _ _ hset htr hvs
  have hsz : xs.toArray.size = R.params.size := by rw [← hps] at hlen; simp at hlen ⊢; omega
  have hfold : (R.params.zip xs.toArray).foldl (fun tmps (p : Tmp × Value) => tmps.setIfInBounds p.1 p.2) R.tmps = (L.params.zip xs).foldl (fun tmps p => tmps.setIfInBounds p.1 p.2) R.tmps := by
    rw [← Array.foldl_toList, Array.toList_zip, hps]
  refine ⟨_, _, _, _, run_yield ho hsz, ?_⟩
  refine roundIn_of_wpIn (F := Fence.wide) trivial ?_
  have hat : At (ZR w (some l)) base m ⟨t, L.nt, [], h⟩ { tmps := (R.params.zip xs.toArray).foldl (fun tmps (t, a) => tmps.setIfInBounds t a) R.tmps, defers := [] } w := by
    refine ⟨hr, hB, ?_, .nil⟩
    have := hfold ▸ htr'
    exact this
  have hw1 := hwp.out base m h w (some r) _ w ⟨m, (SW.refl hr).weak (Nat.le_refl _) (fun i hi => by cases hi), hat, hm⟩
  rw [← has] at hw1
  refine wpIn_mono hw1 ?_
  rintro e a1 w1 ⟨ex, s1, ⟨rfl, L1, hg1, hstL1, hbody⟩, rfl, m1, hsw1, hat1, hro1⟩
  have hm1 : m1 l = some (r, 0, 0) := hro1
  show ∃ w₂, (Instr.beginRound r).run P w1 = .ok () w₂ ∧ R.body.wpIn (Fence.wide.inRound r) 0 P (roundPost P r (PostW base X m h w K)) a1 w₂
  obtain ⟨R1, ho1, hst1, hpd1, _⟩ := loop_at hat1.hr hg1 hm1
  refine ⟨_, run_beginRound ho1 (hst1.trans hstL1), ?_⟩
  have hput : SR base m1 s1.h w1 m1 (s1.h.put l (.loop { L1 with state := .busy })) (w1.putObj r (.loop { R1 with state := .busy })) := by
    have := loop_put hat1.hr hg1 hm1 ho1 .busy L1.pending
    have e1 : ({ R1 with state := .busy, pending := L1.pending } : Loop) = { R1 with state := .busy } := by rw [← hpd1]
    rw [e1] at this
    exact this
  have hat2 : At (ZR w (some l)) base m1 ⟨s1.t, s1.nt, s1.marks, s1.h.put l (.loop { L1 with state := .busy })⟩ a1 (w1.putObj r (.loop { R1 with state := .busy })) :=
    ⟨hput.hr, Nat.le_trans hat1.base hput.size, hat1.tr, hat1.mks⟩
  have hw2 := hbody.out base m h w (some r) a1 _ ⟨m1, hsw1.trans (.of_SR hput) hsw1.n (fun i hi => by cases hi), hat2, hm1⟩
  rw [← hbd] at hw2
  refine wpIn_mono hw2 ?_
  rintro e a2 w2 ⟨ex2, s2, ⟨v, h', hend, hK⟩, rfl, m2, hsw2, hat3, hro2⟩
  refine endRound_sound hat3.hr (show m2 l = some (r, 0, 0) from hro2) hend a2 (fun w' hsr3 y hy => ?_)
  exact ⟨v, h', m2, y, hK, rfl, hsw2.trans (.of_SR hsr3) hsw2.n (fun i hi => by cases hi), hy⟩
end
end Go.As
/- What a piece of code asks, calls and ranges over functions carried out where they stand. -/
namespace Go.As
def vcNext (r : Nat) (h : H) (K : V → H → Prop) : Prop := som (h.get r) fun blk => (match blk with
  | .iter b since seen _ => mapP h b fun es clock => (∀ e ∈ es, e.2.2 < since) ∧ since ≤ clock ∧ (leftL es seen = [] → K (.tup [.bool false]) h) ∧
      ∀ e ∈ leftL es seen, som (ofVal e.1) fun kv => K (.tup [.bool true, kv, e.2.1]) (h.put r (.iter b since (seen ++ [e.2.2]) clock))
  | .iter0 => K (.tup [.bool false]) h
  | _ => False)
def keepAv (Y : List Nat) (t : Tr V) : List Nat → Prop
  | [] => True
  | i :: l => (match t.get i with | some v => avV Y v = true | none => True) ∧ keepAv Y t l
theorem keepAv_mem {Y : List Nat} {t : Tr V} : ∀ {l : List Nat}, keepAv Y t l → ∀ i ∈ l, ∀ v, t.get i = some v → avV Y v = true
  | j :: l, ⟨h1, h2⟩, i, hi, v, hv => by
    rcases List.mem_cons.1 hi with rfl | hi
    · rw [hv] at h1; exact h1
    · exact keepAv_mem h2 i hi v hv
def mayMove (n0 : Nat) (X : List Nat) (ro : Option Nat) (marks Y : List Nat) : Bool :=
  (Y.all fun i => Nat.ble n0 i || memB X i) && (match ro with | some l => !memB Y l | none => true) && (marks.all fun i => !memB Y i)
theorem mayMove_spec {n0 : Nat} {X : List Nat} {ro : Option Nat} {marks Y : List Nat} (h : mayMove n0 X ro marks Y = true) : (∀ i ∈ Y, n0 ≤ i ∨ i ∈ X) ∧ (∀ l, ro = some l → l ∉ Y) ∧ (∀ i ∈ marks, i ∉ Y) := by
  simp only [mayMove, Bool.and_eq_true, List.all_eq_true, Bool.or_eq_true] at h
  obtain ⟨⟨h1, h2⟩, h3⟩ := h
  refine ⟨fun i hi => (h1 i hi).imp Nat.le_of_ble_eq_true memB_iff.1, fun l hl => ?_, fun i hi => memB_not (by simpa using h3 i hi)⟩
  subst hl
  exact memB_not (by simpa using h2)
inductive CallX (P : Program) (n0 : Nat) (X : List Nat) (ro : Option Nat) (marks : List Nat) (t : Tr V) (f : FuncId) (args : List V) (h : H) (K : Tr V → V → H → Prop) : Prop
  | all (hc : CallW P [] f args h (K t))
  | low (Y keep : List Nat) (hY : mayMove n0 X ro marks Y = true) (hk : keepAv Y t keep) (hc : CallW P Y f args h (K (only t keep)))
inductive YldX (P : Program) (n0 : Nat) (X : List Nat) (ro : Option Nat) (marks : List Nat) (t : Tr V) (l : Nat) (args : List V) (h : H) (K : Tr V → V → H → Prop) : Prop
  | all (hc : YldW P [] l args h (K t))
  | low (Y keep : List Nat) (hY : mayMove n0 X ro marks Y = true) (hk : keepAv Y t keep) (hc : YldW P Y l args h (K (only t keep)))
def vcOp2 (P : Program) (n0 : Nat) (X : List Nat) (ro : Option Nat) (marks : List Nat) (o : Op) (t : Tr V) (h : H) (K : Tr V → V → H → Prop) : Prop := match o with
  | .call c => (match c.callee with
    | .value g => (match opX g t, evs c.args.toList t with
      | some (.fn f first caps), some as => CallX P n0 X ro marks t f (first ++ as ++ caps) h K
      | some (.yld l), some as => YldX P n0 X ro marks t l as h K
      | _, _ => False)
    | _ => vcOp P (.call c) t h (K t))
  | .next it st => (match st with
    | false => (match opX it t with
      | some (.ptr r 0) => vcNext r h (K t)
      | _ => False)
    | true => vcOp P (.next it true) t h (K t))
  | o => vcOp P o t h (K t)
def vcOper2 (P : Program) (n0 : Nat) (X : List Nat) (ro : Option Nat) (marks : List Nat) (ops : Array Oper) (nt : Nat) (o : Oper) (t : Tr V) (h : H) (K : Tr V → H → Prop) : Prop := match o.guard with
  | none => vcOp2 P n0 X ro marks o.op t h fun t v h' => setD nt o.dst v t fun t' => K t' h'
  | some (j, want) => (match ops[j]? with
    | some oj => (match oj.dst with
      | some d => (match t.get d with
        | some (.bool b) => (match want with
          | true => ifb b (strictT (t.set d (.bool true)) fun t => vcOp2 P n0 X ro marks o.op t h fun t v h' => setD nt o.dst v t fun t' => K t' h') (strictT (t.set d (.bool false)) fun t => setD nt o.dst (.tup []) t fun t' => K t' h)
          | false => ifb b (strictT (t.set d (.bool true)) fun t => setD nt o.dst (.tup []) t fun t' => K t' h) (strictT (t.set d (.bool false)) fun t => vcOp2 P n0 X ro marks o.op t h fun t v h' => setD nt o.dst v t fun t' => K t' h'))
        | some _ => setD nt o.dst (.tup []) t fun t' => K t' h
        | none => False)
      | none => False)
    | none => False)
def vcOps2 (P : Program) (n0 : Nat) (X : List Nat) (ro : Option Nat) (marks : List Nat) (ops : Array Oper) (nt : Nat) : List Oper → Tr V → H → (Tr V → H → Prop) → Prop
  | [], t, h, K => K t h
  | o :: l, t, h, K => vcOper2 P n0 X ro marks ops nt o t h fun t' h' => vcOps2 P n0 X ro marks ops nt l t' h' K
def enterP (ro : Option Nat) (marks : List Nat) (h : H) (K : H → Nat → List Nat → Prop) : Prop := match ro with
  | none => newP h (.defd false) fun n h1 => K h1 n (n :: marks)
  | some l => (match h.get l with
    | some (.loop r) => K h r.defers marks
    | _ => False)
def afterP (Q : Ex → St → Prop) (t : Tr V) (nt : Nat) (marks : List Nat) (l : Nat) (h : H) : Prop := match h.get l with
  | some (.loop r) => (match r.state with
    | .busy => False
    | _ => (match r.pending with
      | none => Q .normal ⟨t, nt, marks, h.put l (.loop { r with state := .exhausted })⟩
      | some .ret => Q .ret ⟨t, nt, marks, h.put l (.loop { r with state := .exhausted })⟩
      | some (.exit id) => Q (.exit id) ⟨t, nt, marks, h.put l (.loop { r with state := .exhausted })⟩
      | some _ => False))
  | _ => False
def rangeP (P : Program) (ro : Option Nat) (f : FuncId) (first caps : List V) (ps : List Nat) (c1 c2 : Code) (tk : Tr V) (nt : Nat) (marks : List Nat) (h : H) (Y : List Nat) (Q : Ex → St → Prop) : Prop :=
  enterP ro marks h fun h1 d marks' =>
    newP h1 (.loop { state := .ready, pending := none, tmps := tk, nt, params := ps, assign := c1, body := c2, defers := d }) fun l h2 =>
      CallW P Y f (first ++ [.yld l] ++ caps) h2 fun _ h3 => afterP Q tk nt marks' l h3
inductive RangeX (P : Program) (n0 : Nat) (X : List Nat) (ro : Option Nat) (f : FuncId) (first caps : List V) (ps : List Nat) (c1 c2 : Code) (s : St) (Q : Ex → St → Prop) : Prop
  | all (hc : rangeP P ro f first caps ps c1 c2 s.t s.nt s.marks s.h [] Q)
  | low (Y keep : List Nat) (hY : mayMove n0 X ro s.marks Y = true) (hlt : (Y.all fun i => Nat.blt i s.h.n) = true) (hd : (match ro with | some l => (match s.h.get l with | some (.loop r) => !memB Y r.defers | _ => true) | none => true) = true) (hk : keepAv Y s.t keep)
    (hc : rangeP P ro f first caps ps c1 c2 (only s.t keep) s.nt s.marks s.h Y Q)
def vcRange (P : Program) (n0 : Nat) (X : List Nat) (ro : Option Nat) (g : Operand) (ps : Array Nat) (c1 c2 : Code) (s : St) (Q : Ex → St → Prop) : Prop := match opX g s.t with
  | some (.fn f first caps) => RangeX P n0 X ro f first caps ps.toList c1 c2 s Q
  | _ => False
noncomputable def vc2 (P : Program) (n0 : Nat) (X : List Nat) (ro : Option Nat) : Code → St → (Ex → St → Prop) → Prop
  | .skip, s, Q => Q .normal s
  | .label _, s, Q => Q .normal s
  | .region id ops draw, s, Q => (match draw with
    | false => (match s with | ⟨t, nt, marks, h⟩ => vcOps2 P n0 X ro marks ops nt ops.toList t h fun t' h' => Q .normal ⟨t', nt, marks, h'⟩)
    | true => WpR P n0 X ro (.region id ops true) s Q)
  | .seq a b, s, Q => vc2 P n0 X ro a s fun ex s1 => (match ex with | .normal => vc2 P n0 X ro b s1 Q | ex => Q ex s1)
  | .cond x a b, s, Q => (match opX x s.t with
    | some (.bool c) => ifb c (vc2 P n0 X ro a s Q) (vc2 P n0 X ro b s Q)
    | _ => False)
  | .block id a, s, Q => vc2 P n0 X ro a s fun ex s1 => (match ex with
    | .exit id' => (match Nat.beq id' id with | true => Q .normal s1 | false => Q (.exit id') s1)
    | ex => Q ex s1)
  | .loop a, s, Q => WpR P n0 X ro (.loop a) s Q
  | .scope a, s, Q => vc2 P n0 X ro a s Q
  | .exit id, s, Q => Q (.exit id) s
  | .ret, s, Q => Q .ret s
  | .rangeFunc g ps c1 c2, s, Q => vcRange P n0 X ro g ps c1 c2 s Q
  | _, _, _ => False
section
variable {P : Program} {Z : Option Nat} {base n0 : Nat} {X : List Nat} {m0 : M} {h0 : H} {w0 : World} {ro rr : Option Nat}
theorem put_done {m' : M} {t t' : Tr V} {nt : Nat} {marks : List Nat} {h : H} {d : Option Nat} {v : V} {x : Value} {a : Act} (hp : put t nt marks h d v = some (v, ⟨t', nt, marks, h⟩)) (ht : TR m' t nt a.tmps) (hv : VR m' v x) (hmk : MK Z m' marks a.defers) :
    TR m' t' nt (a.put d x).tmps ∧ MK Z m' marks (a.put d x).defers := by
  obtain ⟨_, _, _, _, e5, e6⟩ := put_TR hp ht hv
  exact ⟨e5, by rw [e6]; exact hmk⟩
theorem MK.same {m m' : M} {l : List Nat} {ds : List Deferred} (h : MK Z m l ds) (hl : ∀ i ∈ l, ∀ p, m i = some p → m' i = some p) (hf : ∀ r p, m.fz r = some p → m'.fz r = some p) : MK Z m' l ds := by
  induction h with
  | nil => exact .nil
  | @cons i r l ds hm hz hn _ ih => exact .cons (hl i (by simp) _ hm) hz hn (ih (fun j hj => hl j (by simp [hj])))
  | skip hz hf2 hn _ ih => exact .skip hz (hf _ _ hf2) hn (ih hl)
theorem SW.stay {Y : List Nat} {m m' : M} {h h' : H} {w w' : World} (a : SW base h.n Y m h w m' h' w') (hr : HR base m h w) : StayM Y m m' := by
  refine ⟨fun i hi p hp => ?_, a.fzx⟩
  have hlt : i < h.n := Nat.lt_of_not_le (fun hc => by rw [hr.dom i hc] at hp; cases hp)
  rw [a.same i hlt hi]; exact hp
theorem TR.keep {Y keep : List Nat} {m m' : M} {t : Tr V} {nt : Nat} {a : Array Value} (h : TR m t nt a) (hm : StayM Y m m') (hk : keepAv Y t keep) : TR m' (only t keep) nt a :=
  ⟨h.1, fun i v hi => by
    have hin : i ∈ keep := by
      rw [get_only] at hi; split at hi
      · assumption
      · cases hi
    obtain ⟨x, hx, hv⟩ := h.2 i v (only_get hi)
    exact ⟨x, hx, VR.av hm v (keepAv_mem hk i hin v (only_get hi)) hv⟩⟩
def Goes (Z : Option Nat) (base n0 : Nat) (X : List Nat) (ro : Option Nat) (m : M) (h : H) (w : World) (marks : List Nat) (o : Oper) (a : Act) (nt : Nat) (K : Tr V → H → Prop) (Kw : Act → World → Prop) : Prop :=
  ∀ t' h' m' x w' Y, K t' h' → SW base h.n Y m h w m' h' w' → (∀ i ∈ Y, n0 ≤ i ∨ i ∈ X) → (∀ l, ro = some l → l ∉ Y) → TR m' t' nt (a.put o.dst x).tmps → MK Z m' marks (a.put o.dst x).defers → Kw (a.put o.dst x) w'
theorem vcOp2_sound {o : Oper} {t : Tr V} {nt : Nat} {marks : List Nat} {h : H} {K : Tr V → H → Prop} (hv : vcOp2 P n0 X ro marks o.op t h fun t v h' => setD nt o.dst v t fun t' => K t' h') {m : M} {a : Act} {w : World} (hat : At Z base m ⟨t, nt, marks, h⟩ a w) {Kw : Act → World → Prop} {Q : Exit → Act → World → Prop}
    (hG : Goes Z base n0 X ro m h w marks o a nt K Kw) : o.wpIn (rf rr) 0 P a w Kw Q := by
  have hK : ∀ t' h' m' x w', K t' h' → SW base h.n [] m h w m' h' w' → TR m' t' nt (a.put o.dst x).tmps → MK Z m' marks (a.put o.dst x).defers → Kw (a.put o.dst x) w' :=
    fun t' h' m' x w' h1 h2 h3 h4 => hG t' h' m' x w' [] h1 h2 (fun i hi => by cases hi) (fun l _ hi => by cases hi) h3 h4
  have old : (vcOp P o.op t h fun v h' => setD nt o.dst v t fun t' => K t' h') → o.wpIn (rf rr) 0 P a w Kw Q := by
    intro hv'
    obtain ⟨v, h', ⟨k, hk, hact⟩, hset⟩ := vcOp_sound hv'
    obtain ⟨t', hp, hK'⟩ := setD_put hset marks h'
    exact act_sound (kf := 0) (selfK_sound hk _ 0) ((hact nt marks o.dst).trans hp) hat (fun m' x w' hsr hvx htr hmk => hK t' h' m' x w' hK' (.of_SR hsr) htr hmk)
  -- behind a call
  have behind : ∀ {Y : List Nat} {tk : Tr V} {v : V} {h' : H} {m' : M} {x : Value} {w' : World}, (setD nt o.dst v tk fun t' => K t' h') → SW base h.n Y m h w m' h' w' → mayMove n0 X ro marks Y = true → TR m' tk nt a.tmps → VR m' v x → Kw (a.put o.dst x) w' := by
    intro Y tk v h' m' x w' hset hsw hY htr hvx
    obtain ⟨g1, g2, g3⟩ := mayMove_spec hY
    obtain ⟨t', hp, hK'⟩ := setD_put hset marks h'
    obtain ⟨h1, h2⟩ := put_done hp htr hvx (hat.mks.same (fun i hi p hp => SW.stay hsw hat.hr i (g3 i hi) p hp) hsw.fzx)
    exact hG t' h' m' x w' Y hK' hsw g1 g2 h1 h2
  have hnil : mayMove n0 X ro marks [] = true := by
    simp only [mayMove, Bool.and_eq_true, List.all_eq_true]
    refine ⟨⟨(fun i hi => by cases hi), ?_⟩, fun i _ => rfl⟩
    cases ro <;> rfl
  cases hop : o.op with
  | call c =>
    rw [hop] at hv
    obtain ⟨callee, args, ts⟩ := c
    cases callee with
    | value g =>
      have hv' : (match opX g t, evs args.toList t with
        | some (.fn f first caps), some as => CallX P n0 X ro marks t f (first ++ as ++ caps) h fun t v h' => setD nt o.dst v t fun t' => K t' h'
        | some (.yld l), some as => YldX P n0 X ro marks t l as h fun t v h' => setD nt o.dst v t fun t' => K t' h'
        | _, _ => False) := hv
      refine ⟨fun _ _ => trivial, ?_⟩
      have hsem : o.semAt (rf rr).round a.eval = execOp a.eval o := Oper.semAt_eq _ _ _ (not_defer (P := P) (by rw [hop]; intro h; cases h))
      rw [hsem]
      have hexec : execOp a.eval o = (do let d ← Deferred.ofValue (a.eval g) (args.map a.eval); invoke d.target d.args) := by
        simp only [execOp, hop, resolve]
      rw [hexec]
      split at hv'
      · rename_i f first caps as hg has
        have hu := opX_VR hat.tr hg
        have hargs := evs_VRs hat.tr has
        cases hgv : a.eval g <;> rw [hgv] at hu <;> cases hu
        rename_i p' q' la ha1 lb hb1
        have hvs : VRs m (first ++ as ++ caps) ((p'.toList ++ args.toList.map a.eval) ++ q'.toList) := ((VRs.of_array la ha1).append hargs).append (VRs.of_array lb hb1)
        have hdo : ∀ {Y : List Nat} {tk : Tr V}, CallW P Y f (first ++ as ++ caps) h (fun v h' => setD nt o.dst v tk fun t' => K t' h') → mayMove n0 X ro marks Y = true → (∀ m', StayM Y m m' → TR m' tk nt a.tmps) →
            o.uponIn (rf rr) 0 P a Kw Q ((do let d ← Deferred.ofValue (.func (.func f) p' q') (args.map a.eval); invoke d.target d.args : Sem Next).run P w) := by
          intro Y tk hcw hY htk
          obtain ⟨⟨fn, hfn, hbody, hname⟩, hcall⟩ := hcw.out base m w _ hat.hr hat.base hvs
          have hrun : (do let d ← Deferred.ofValue (.func (.func f) p' q') (args.map a.eval); invoke d.target d.args : Sem Next).run P w = .ok (.enter f ((p'.toList ++ args.toList.map a.eval) ++ q'.toList).toArray) w := by
            have hnone : fn.body.isNone = false := by cases hb : fn.body <;> simp_all
            simp only [Sem.run_bind, Deferred.ofValue, Sem.run_pure, Result.andThen_ok, invoke, callFunc, run_program, hfn, hname, Bool.false_eq_true, if_false, hnone]
            congr 2
            apply Array.ext'
            simp
          rw [hrun, Oper.uponIn_enter]
          refine ⟨fun hd => (by cases hd), ?_⟩
          refine CallsIn.mono (F := rf rr) hcall ?_
          rintro e w' ⟨v, h', m', x, hset, rfl, hsw, hvx⟩
          exact behind hset hsw hY (htk m' (SW.stay hsw hat.hr)) hvx
        cases hv' with
        | all hc => exact hdo hc hnil (fun m' hm => ⟨hat.tr.1, fun i v hi => let ⟨x, hx, hvr⟩ := hat.tr.2 i v hi; ⟨x, hx, VR.av hm v (avV_nil v) hvr⟩⟩)
        | low Y keep hY hk hc => exact hdo hc hY (fun m' hm => TR.keep hat.tr hm hk)
      · rename_i l as hg has
        have hu := opX_VR hat.tr hg
        have hargs := evs_VRs hat.tr has
        cases hgv : a.eval g <;> rw [hgv] at hu <;> cases hu
        rename_i r hml
        have hdo : ∀ {Y : List Nat} {tk : Tr V}, YldW P Y l as h (fun v h' => setD nt o.dst v tk fun t' => K t' h') → mayMove n0 X ro marks Y = true → (∀ m', StayM Y m m' → TR m' tk nt a.tmps) →
            o.uponIn (rf rr) 0 P a Kw Q ((do let d ← Deferred.ofValue (.func (.yield r) #[] #[]) (args.map a.eval); invoke d.target d.args : Sem Next).run P w) := by
          intro Y tk hcw hY htk
          obtain ⟨f, tmps, assign, body, hyr, hround⟩ := hcw.out base m w _ r hat.hr hat.base hml hargs
          have hrun : (do let d ← Deferred.ofValue (.func (.yield r) #[] #[]) (args.map a.eval); invoke d.target d.args : Sem Next).run P w = .ok (.round r f tmps assign body) w := by
            simp only [Sem.run_bind, Deferred.ofValue, Sem.run_pure, Result.andThen_ok, invoke]
            have : (#[] ++ args.map a.eval) = (args.toList.map a.eval).toArray := by apply Array.ext'; simp
            rw [this]; exact hyr
          rw [hrun, Oper.uponIn_round]
          refine ⟨fun hd => (by cases hd), ?_⟩
          refine RoundIn.mono (F := rf rr) hround ?_
          rintro e w' ⟨v, h', m', x, hset, rfl, hsw, hvx⟩
          exact behind hset hsw hY (htk m' (SW.stay hsw hat.hr)) hvx
        cases hv' with
        | all hc => exact hdo hc hnil (fun m' hm => ⟨hat.tr.1, fun i v hi => let ⟨x, hx, hvr⟩ := hat.tr.2 i v hi; ⟨x, hx, VR.av hm v (avV_nil v) hvr⟩⟩)
        | low Y keep hY hk hc => exact hdo hc hY (fun m' hm => TR.keep hat.tr hm hk)
      · exact hv'.elim
    | builtin b => exact old (by rw [hop]; exact hv)
    | invoke _ _ => exact old (by rw [hop]; exact hv)
  | next it st =>
    rw [hop] at hv
    cases st with
    | true => exact old (by rw [hop]; exact hv)
    | false =>
      have hv' : (match opX it t with
        | some (.ptr r 0) => vcNext r h fun v h' => setD nt o.dst v t fun t' => K t' h'
        | _ => False) := hv
      split at hv'
      · rename_i i hx
        have hu := opX_VR hat.tr hx
        cases hxv : a.eval it <;> rw [hxv] at hu <;> cases hu
        rename_i r s hm
        obtain ⟨blk, hg, hv'⟩ := som_ex hv'
        have hsem : o.semAt (rf rr).round a.eval = execOp a.eval o := Oper.semAt_eq _ _ _ (not_defer (P := P) (by rw [hop]; intro h; cases h))
        have hex : ∀ z w', (Instr.next (.pointer (some ⟨r, s.1 + 0, none⟩)) false o.type).run P w = .ok z w' → (execOp a.eval o).run P w = .ok (.value z) w' := by
          intro z w' hz
          simp only [execOp, hop]
          refine val_run ?_
          rw [hxv]; exact hz
        refine ⟨fun _ _ => trivial, ?_⟩
        rw [hsem]
        cases blk with
        | iter b since seen last =>
          have hs : s = (0, 0) := (hat.hr.blk i _ r s hg hm).1
          subst hs
          obtain ⟨es, clock, hb, hold, hcl, hnil, hall⟩ := mapP_ex hv'
          rcases next_map (P := P) hat.hr hg hm hb hold hcl o.type with ⟨h0, hrun⟩ | ⟨e, he, w', x, hvx, hrun, hsr⟩
          · rw [hex _ _ hrun, Oper.uponIn_value]
            obtain ⟨t', hp, hK'⟩ := setD_put (hnil h0) marks h
            have hvr : VR m (.tup [.bool false]) (.tuple #[.bool false]) := VRs.tup (((VRs.nil m).cons (.bool false)))
            obtain ⟨h1, h2⟩ := put_done hp hat.tr hvr hat.mks
            exact hK t' h m _ w hK' (.refl hat.hr) h1 h2
          · rw [hex _ _ hrun, Oper.uponIn_value]
            obtain ⟨kv, hkv, hset⟩ := som_ex (hall e he)
            obtain ⟨t', hp, hK'⟩ := setD_put hset marks (h.put i (.iter b since (seen ++ [e.2.2]) clock))
            have hvr : VR m (.tup [.bool true, kv, e.2.1]) (.tuple #[.bool true, e.1, x]) := VRs.tup ((((VRs.nil m).cons hvx).cons ((ofVal_VR hkv m).1)).cons (.bool true))
            obtain ⟨h1, h2⟩ := put_done hp hat.tr hvr hat.mks
            exact hK t' _ m _ w' hK' (.of_SR hsr) h1 h2
        | iter0 =>
          obtain ⟨hs, hw⟩ := hat.hr.blk i _ r s hg hm
          subst hs
          have hrun : (Instr.next (.pointer (some ⟨r, 0, none⟩)) false o.type).run P w = .ok (.tuple #[.bool false]) w := by
            unfold Instr.next
            simp only [getObj, Sem.run_bind, Sem.run, hw, Result.andThen]
            rfl
          rw [hex _ _ hrun, Oper.uponIn_value]
          have hv2 : setD nt o.dst (.tup [.bool false]) t fun t' => K t' h := hv'
          obtain ⟨t', hp, hK'⟩ := setD_put hv2 marks h
          have hvr : VR m (.tup [.bool false]) (.tuple #[.bool false]) := VRs.tup (((VRs.nil m).cons (.bool false)))
          obtain ⟨h1, h2⟩ := put_done hp hat.tr hvr hat.mks
          exact hK t' h m _ w hK' (.refl hat.hr) h1 h2
        | _ => exact hv'.elim
      · exact hv'.elim
  | _ => rw [hop] at hv; exact old (by rw [hop]; exact hv)
theorem vcOper2_sound {ops : Array Oper} {nt : Nat} {o : Oper} {t : Tr V} {h : H} {marks : List Nat} {K : Tr V → H → Prop} (hv : vcOper2 P n0 X ro marks ops nt o t h K) {m : M} {a : Act} {w : World} (hat : At Z base m ⟨t, nt, marks, h⟩ a w) {Kw : Act → World → Prop} {Q : Exit → Act → World → Prop}
    (hG : Goes Z base n0 X ro m h w marks o a nt K Kw) :
    if Region.wanted o (yielded ops a.tmps) = true then o.wpIn (rf rr) 0 P a w Kw Q else (∀ f, o.about P w a.eval = some f → (rf rr).fn f) ∧ Kw (a.put o.dst undef) w := by
  have run : ∀ {b : Bool}, Region.wanted o (yielded ops a.tmps) = b → b = true → (vcOp2 P n0 X ro marks o.op t h fun t v h' => setD nt o.dst v t fun t' => K t' h') → (if Region.wanted o (yielded ops a.tmps) = true then o.wpIn (rf rr) 0 P a w Kw Q else (∀ f, o.about P w a.eval = some f → (rf rr).fn f) ∧ Kw (a.put o.dst undef) w) := by
    intro b hb hbt hr
    rw [if_pos (hb.trans hbt)]
    exact vcOp2_sound hr hat hG
  have skip : ∀ {b : Bool}, Region.wanted o (yielded ops a.tmps) = b → b = false → (setD nt o.dst (.tup []) t fun t' => K t' h) → (if Region.wanted o (yielded ops a.tmps) = true then o.wpIn (rf rr) 0 P a w Kw Q else (∀ f, o.about P w a.eval = some f → (rf rr).fn f) ∧ Kw (a.put o.dst undef) w) := by
    intro b hb hbf hr
    rw [if_neg (by rw [hb, hbf]; exact Bool.false_ne_true)]
    refine ⟨fun _ _ => trivial, ?_⟩
    obtain ⟨t', hp, hK'⟩ := setD_put hr marks h
    obtain ⟨h1, h2⟩ := put_done hp hat.tr (VR.undef m) hat.mks
    exact hG t' h m undef w [] hK' (.refl hat.hr) (fun i hi => by cases hi) (fun l _ hi => by cases hi) h1 h2
  unfold vcOper2 at hv
  have hw : ∀ b, wanted t (compO P ops o).g = some b → (o.guard = none ∨ (compO P ops o).g ≠ none) → Region.wanted o (yielded ops a.tmps) = b := fun b h1 h2 => wanted_sound hat.tr h1 h2
  unfold compO at hw
  split at hv
  · rename_i hg
    simp only [hg] at hw
    exact run (hw true rfl (.inl trivial)) rfl hv
  · rename_i j want hg
    simp only [hg] at hw
    split at hv
    · rename_i oj hj
      simp only [hj] at hw
      split at hv
      · rename_i d hd
        simp only [hd] at hw
        split at hv
        · rename_i b hb
          have hwb : Region.wanted o (yielded ops a.tmps) = (b == want) := hw _ (by simp only [wanted, hb]) (.inr (by simp))
          cases want <;> cases b
          · have hr := ifb_2 hv rfl
            rw [strictT_eq, Tr.set_self hb] at hr
            exact run hwb rfl hr
          · have hr := ifb_1 hv rfl
            rw [strictT_eq, Tr.set_self hb] at hr
            exact skip hwb rfl hr
          · have hr := ifb_2 hv rfl
            rw [strictT_eq, Tr.set_self hb] at hr
            exact skip hwb rfl hr
          · have hr := ifb_1 hv rfl
            rw [strictT_eq, Tr.set_self hb] at hr
            exact run hwb rfl hr
        · rename_i u hno hu
          exact skip (hw false (by simp only [wanted, hu]) (.inr (by simp))) rfl hv
        · exact hv.elim
      · exact hv.elim
    · exact hv.elim
theorem vcOps2_sound {ops : Array Oper} {nt : Nat} {marks : List Nat} {Q : Exit → Act → World → Prop} : ∀ (l : List Oper) (i : Nat) (t : Tr V) (h : H) (a : Act) (w : World) (K : Tr V → H → Prop), (∀ k, k < l.length → ops[i + k]? = l[k]?) →
    vcOps2 P n0 X ro marks ops nt l t h K → SatR base n0 X m0 h0 w0 ro rr ⟨t, nt, marks, h⟩ a w → (∀ t' h' a' w', K t' h' → SatR base n0 X m0 h0 w0 ro rr ⟨t', nt, marks, h'⟩ a' w' → Q .normal a' w') → wpOpsIn (rf rr) 0 P ops Q (List.range' i l.length) a w := by
  intro l
  induction l with
  | nil => intro i t h a w K _ hv hs hQ; exact hQ _ _ _ _ hv hs
  | cons o l ih =>
    intro i t h a w K hget hv hs hQ
    have hv' : vcOper2 P n0 X ro marks ops nt o t h fun t' h' => vcOps2 P n0 X ro marks ops nt l t' h' K := hv
    have ho : ops[i]? = some o := by have := hget 0 (by simp); simpa using this
    have hrange : List.range' i (o :: l).length = i :: List.range' (i + 1) l.length := by simp [List.range'_succ]
    rw [hrange]
    simp only [wpOpsIn, ho]
    obtain ⟨m, hsw, hat, hro⟩ := hs
    refine vcOper2_sound hv' hat (fun t1 h1 m' x w' Y hv1 hsr hY hrol htr hmk => ?_)
    have hrolt : ∀ l, ro = some l → l < h.n := by
      intro l hl
      subst hl
      cases rr with
      | none => exact hro.elim
      | some r =>
        have hm : m l = some (r, 0, 0) := hro
        exact Nat.lt_of_not_le (fun hc => by rw [hat.hr.dom l hc] at hm; cases hm)
    refine ih (i + 1) t1 h1 _ w' K (fun k hk => ?_) hv1 (SatR.stepW (s' := ⟨t1, nt, marks, h1⟩) hsw hat hro hsr hsw.n hY (fun l hl => ⟨hrolt l hl, hrol l hl⟩) htr hmk) hQ
    have := hget (k + 1) (by simp; omega)
    rw [show i + 1 + k = i + (k + 1) from by omega]
    simpa using this
theorem WpR.mono {c : Code} {s : St} {Q Q' : Ex → St → Prop} (h : WpR P n0 X ro c s Q) (hq : ∀ ex s', Q ex s' → Q' ex s') : WpR P n0 X ro c s Q' := by
  refine ⟨fun base m0 h0 w0 rr a w hs => ?_⟩
  refine wpIn_mono (h.out base m0 h0 w0 rr a w hs) ?_
  rintro e a' w' ⟨ex, s', h1, h2, h3⟩
  exact ⟨ex, s', hq ex s' h1, h2, h3⟩
theorem WpR.region {id : Nat} {ops : Array Oper} {s : St} {Q : Ex → St → Prop} (h : vcOps2 P n0 X ro s.marks ops s.nt ops.toList s.t s.h fun t' h' => Q .normal ⟨t', s.nt, s.marks, h'⟩) : WpR P n0 X ro (.region id ops false) s Q := by
  refine ⟨fun base m0 h0 w0 rr a w hs => ?_⟩
  refine wpIn_region ?_
  have := vcOps2_sound (P := P) (n0 := n0) (X := X) (ops := ops) (nt := s.nt) (marks := s.marks) (Q := PostR base n0 X m0 h0 w0 ro rr Q) ops.toList 0 s.t s.h a w _ (fun k _ => by simp) h hs (fun t' h' a' w' hK hs' => ⟨.normal, _, hK, rfl, hs'⟩)
  rw [List.range_eq_range']
  simpa using this
theorem PostR.ne_goto {Q : Ex → St → Prop} {l : Nat} {a : Act} {w : World} : ¬ PostR base n0 X m0 h0 w0 ro rr Q (.goto l) a w := by
  rintro ⟨ex, _, _, h, _⟩; cases ex <;> cases h
theorem range_do {f : FuncId} {first caps : List V} {g : Operand} {ps : Array Nat} {c1 c2 : Code} {t : Tr V} {nt : Nat} {marks : List Nat} {hh : H} {Q : Ex → St → Prop} {m : M} {a : Act} {w : World} (hsw : SW base n0 X m0 h0 w0 m hh w) (hat : At (ZR w0 ro) base m ⟨t, nt, marks, hh⟩ a w) (hro : RO m ro rr)
    (hg : opX g t = some (.fn f first caps)) {Y : List Nat} {tk : Tr V} (hY : mayMove n0 X ro marks Y = true) (hlt : ∀ i ∈ Y, i < hh.n) (hdY : ∀ l, ro = some l → ∀ r, hh.get l = some (.loop r) → r.defers ∉ Y) (htk : ∀ i v, tk.get i = some v → t.get i = some v ∧ avV Y v = true)
    (hc : rangeP P ro f first caps ps.toList c1 c2 tk nt marks hh Y Q) : (Code.rangeFunc g ps c1 c2).wpIn (rf rr) 0 P (PostR base n0 X m0 h0 w0 ro rr Q) a w := by
  obtain ⟨hr, hB, htr, hmk⟩ := hat
  dsimp only at hr htr hmk
  obtain ⟨g1, g2, g3⟩ := mayMove_spec hY
  have hu := opX_VR htr hg
  cases hgv : a.eval g <;> rw [hgv] at hu <;> cases hu
  rename_i p' q' la ha1 lb hb1
  have htr' : TR m tk nt a.tmps := ⟨htr.1, fun i v hi => htr.2 i v (htk i v hi).1⟩
  refine wpIn_rangeFunc ?_
  intro fn _
  have hEnter : ∃ (h1 : H) (d : Nat) (marks' : List Nat) (m1 : M) (w1 : World) (dr : Nat) (mark : List Deferred), SR base m hh w m1 h1 w1 ∧ m1 d = some (dr, 0, 0) ∧ d ∉ Y ∧ (∀ i ∈ marks', i ∉ Y) ∧ MK (ZR w0 ro) m1 marks' (mark ++ a.defers) ∧
      (Instr.enterLoop fn a.tmps ps c1 c2 rr).run P w = .ok (w1.heap.size, mark) (w1.alloc (.loop { state := .ready, pending := none, fn, tmps := a.tmps, params := ps, assign := c1, body := c2, defers := dr })) ∧
      CallW P Y f (first ++ [.yld h1.n] ++ caps) (h1.new (.loop { state := .ready, pending := none, tmps := tk, nt, params := ps.toList, assign := c1, body := c2, defers := d })) fun _ h3 => afterP Q tk nt marks' h1.n h3 := by
    cases ro with
    | none =>
      cases rr with
      | some r => exact hro.elim
      | none =>
        have h2 : newP hh (.defd false) fun n h1 => newP h1 (.loop { state := .ready, pending := none, tmps := tk, nt, params := ps.toList, assign := c1, body := c2, defers := n }) fun l h2 =>
          CallW P Y f (first ++ [.yld l] ++ caps) h2 fun _ h3 => afterP Q tk nt (n :: marks) l h3 := hc
        rw [newP_eq, newP_eq] at h2
        have hnY : hh.n ∉ Y := fun hc => by have := hlt _ hc; omega
        refine ⟨hh.new (.defd false), hh.n, hh.n :: marks, m.set hh.n (w.heap.size, 0, 0), w.alloc (.deferred (some [])), w.heap.size, [{ target := .collected w.heap.size, args := #[] }], SR.new' hr hB ⟨rfl, rfl⟩, M.set_same _ _ _, hnY, ?_, (.cons (M.set_same _ _ _) (fun n hn => by cases hn; exact hsw.size) (hmk.size hr) (hmk.mono (.set _ (hr.dom hh.n (Nat.le_refl _))))), ?_, h2⟩
        · intro i hi
          rcases List.mem_cons.1 hi with rfl | hi
          · exact hnY
          · exact g3 i hi
        · rw [run_enterLoop_outer, World.size_alloc]
    | some l0 =>
      cases rr with
      | none => exact hro.elim
      | some r0 =>
        have hm0 : m l0 = some (r0, 0, 0) := hro
        have h2 : (match hh.get l0 with
          | some (.loop r) => newP hh (.loop { state := .ready, pending := none, tmps := tk, nt, params := ps.toList, assign := c1, body := c2, defers := r.defers }) fun l h2 =>
            CallW P Y f (first ++ [.yld l] ++ caps) h2 fun _ h3 => afterP Q tk nt marks l h3
          | _ => False) := hc
        split at h2
        · rename_i L0 hg0
          rw [newP_eq] at h2
          obtain ⟨R0, ho0, _, _, _, _, _, hd0, _⟩ := loop_at hr hg0 hm0
          refine ⟨hh, L0.defers, marks, m, w, R0.defers, [], .refl hr, hd0, hdY l0 rfl L0 hg0, g3, hmk, ?_, h2⟩
          unfold Instr.enterLoop
          simp only [Sem.run_bind, run_getLoop ho0, run_newObj_alloc, Result.andThen, Sem.run_pure]
        · exact h2.elim
  obtain ⟨h1, d, marks', m1, w1, dr, mark, hsr1, hd1, hdnY, hmY, hmk1, hrunE, hcw⟩ := hEnter
  have hB1 : base ≤ w1.heap.size := Nat.le_trans hB hsr1.size
  have hext2 : Ext m1 (m1.set h1.n (w1.heap.size, 0, 0)) := .set _ (hsr1.hr.dom h1.n (Nat.le_refl _))
  have hsr2 : SR base m1 h1 w1 (m1.set h1.n (w1.heap.size, 0, 0)) (h1.new (.loop { state := .ready, pending := none, tmps := tk, nt, params := ps.toList, assign := c1, body := c2, defers := d }))
      (w1.alloc (.loop { state := .ready, pending := none, fn, tmps := a.tmps, params := ps, assign := c1, body := c2, defers := dr })) :=
    SR.new' hsr1.hr hB1 ⟨rfl, _, rfl, rfl, rfl, rfl, rfl, rfl, hext2 _ _ hd1, (htr'.mono hsr1.ext).mono hext2⟩
  obtain ⟨W, hW⟩ : ∃ W : World, W = w1.alloc (.loop { state := .ready, pending := none, fn, tmps := a.tmps, params := ps, assign := c1, body := c2, defers := dr }) := ⟨_, rfl⟩
  rw [← hW] at hsr2 hrunE
  clear hW
  have hsr12 := hsr1.trans hsr2
  have hargs : VRs (m1.set h1.n (w1.heap.size, 0, 0)) (first ++ [.yld h1.n] ++ caps) ((p'.toList ++ [Value.func (.yield w1.heap.size) #[] #[]]) ++ q'.toList) :=
    (((VRs.of_array la ha1).mono hsr12.ext).append (VRs.cons (.yld (M.set_same _ _ _)) (.nil _))).append ((VRs.of_array lb hb1).mono hsr12.ext)
  obtain ⟨⟨fnn, hfn, hbody, hname⟩, hcall⟩ := hcw.out base _ W _ hsr12.hr (Nat.le_trans hB hsr12.size) hargs
  refine ⟨w1.heap.size, mark, W, { target := .fn (.func f) q', args := p' ++ #[Value.func (.yield w1.heap.size) #[] #[]] }, W, f, ((p'.toList ++ [Value.func (.yield w1.heap.size) #[] #[]]) ++ q'.toList).toArray, W, hrunE, ?_, fun _ _ => trivial, ?_, fun hd => (by cases hd), ?_⟩
  · simp only [resolve, hgv, Deferred.ofValue, Sem.run_pure]
    have : (#[Operand.const (.func (.yield w1.heap.size) #[] #[])].map a.eval) = #[Value.func (.yield w1.heap.size) #[] #[]] := by
      simp [Act.eval]
    rw [this]
  · have hnone : fnn.body.isNone = false := by cases hb : fnn.body <;> simp_all
    simp only [invoke, callFunc, Sem.run_bind, run_program, Result.andThen_ok, hfn, hname, Bool.false_eq_true, if_false, hnone, Sem.run_pure]
    congr 2
    apply Array.ext'
    simp
  · refine CallsIn.mono (F := rf rr) hcall ?_
    rintro e w3 ⟨v3, h3, m3, x, hK, rfl, hsw3, hvx⟩
    have hnn : h1.n ∉ Y := fun hc => by have := hlt _ hc; have := hsr1.n; omega
    have hstay := SW.stay hsw3 hsr12.hr
    have hsw13 : SW base hh.n Y m hh w m3 h3 w3 :=
      ((SW.of_SR hsr12).weak (X' := Y) (Nat.le_refl _) (fun i hi => by cases hi)).trans hsw3 hsr12.n (fun i hi => .inr hi)
    have hm3 : m3 h1.n = some (w1.heap.size, 0, 0) := hstay _ hnn _ (M.set_same _ _ _)
    unfold afterP at hK
    split at hK
    · rename_i L2 hg2
      obtain ⟨R2, ho2, hst2, hpd2, _⟩ := loop_at hsw3.hr hg2 hm3
      have hput : SR base m3 h3 w3 m3 (h3.put h1.n (.loop { L2 with state := .exhausted })) (w3.putObj w1.heap.size (.loop { R2 with state := .exhausted })) := by
        have := loop_put hsw3.hr hg2 hm3 ho2 .exhausted L2.pending
        have e1 : ({ R2 with state := .exhausted, pending := L2.pending } : Loop) = { R2 with state := .exhausted } := by rw [← hpd2]
        rw [e1] at this
        exact this
      have hall : SW base hh.n Y m hh w m3 (h3.put h1.n (.loop { L2 with state := .exhausted })) (w3.putObj w1.heap.size (.loop { R2 with state := .exhausted })) := hsw13.trans (.of_SR hput) hsw13.n (fun i hi => by cases hi)
      have hrolt : ∀ l, ro = some l → l < hh.n := by
        intro l hl
        subst hl
        cases rr with
        | none => exact hro.elim
        | some r =>
          have hm : m l = some (r, 0, 0) := hro
          exact Nat.lt_of_not_le (fun hc => by rw [hr.dom l hc] at hm; cases hm)
      have htr3 : TR m3 tk nt a.tmps := ⟨htr'.1, fun i v hi => by
        obtain ⟨x, hx, hv⟩ := htr'.2 i v hi
        exact ⟨x, hx, VR.av hstay v (htk i v hi).2 (hv.mono hsr12.ext)⟩⟩
      have hSat : SatR base n0 X m0 h0 w0 ro rr ⟨tk, nt, marks', h3.put h1.n (.loop { L2 with state := .exhausted })⟩ { a with defers := mark ++ a.defers } (w3.putObj w1.heap.size (.loop { R2 with state := .exhausted })) :=
        SatR.stepW (s := ⟨t, nt, marks, hh⟩) (s' := ⟨tk, nt, marks', h3.put h1.n (.loop { L2 with state := .exhausted })⟩) hsw ⟨hr, hB, htr, hmk⟩ hro hall hsw.n g1 (fun l hl => ⟨hrolt l hl, g2 l hl⟩) htr3 ((hmk1.mono hsr2.ext).same (fun i hi p hp => hstay i (hmY i hi) p hp) hsw3.fzx)
      have hnb : L2.state ≠ .busy := by intro hb; rw [hb] at hK; exact hK.elim
      have hc2 : (match L2.pending with
        | none => Q .normal ⟨tk, nt, marks', h3.put h1.n (.loop { L2 with state := .exhausted })⟩
        | some .ret => Q .ret ⟨tk, nt, marks', h3.put h1.n (.loop { L2 with state := .exhausted })⟩
        | some (.exit id) => Q (.exit id) ⟨tk, nt, marks', h3.put h1.n (.loop { L2 with state := .exhausted })⟩
        | some _ => False) := by
        cases hstL : L2.state <;> rw [hstL] at hK <;> first | exact hK | exact hK.elim
      refine ⟨R2.pending, _, run_endLoop ho2 (by rw [hst2]; exact hnb), ?_⟩
      rw [hpd2]
      cases hp : L2.pending with
      | none =>
        rw [hp] at hc2
        rw [hpd2, hp] at hSat
        exact ⟨.normal, _, hc2, rfl, hSat⟩
      | some c =>
        rw [hp] at hc2
        rw [hpd2, hp] at hSat
        cases c with
        | ret => exact wpIn_ret ⟨.ret, _, hc2, rfl, hSat⟩
        | exit id => exact wpIn_exit ⟨.exit id, _, hc2, rfl, hSat⟩
        | _ => exact hc2.elim
    · exact hK.elim
theorem WpR.range {g : Operand} {ps : Array Nat} {c1 c2 : Code} {s : St} {Q : Ex → St → Prop} (h : vcRange P n0 X ro g ps c1 c2 s Q) : WpR P n0 X ro (.rangeFunc g ps c1 c2) s Q := by
  refine ⟨fun base m0 h0 w0 rr a w hs => ?_⟩
  obtain ⟨t, nt, marks, hh⟩ := s
  obtain ⟨m, hsw, hat, hro⟩ := hs
  have h' : (match opX g t with
    | some (.fn f first caps) => RangeX P n0 X ro f first caps ps.toList c1 c2 ⟨t, nt, marks, hh⟩ Q
    | _ => False) := h
  split at h'
  · rename_i f first caps hg
    cases h' with
    | all hc =>
      have hnil : mayMove n0 X ro marks [] = true := by
        simp only [mayMove, Bool.and_eq_true, List.all_eq_true]
        refine ⟨⟨(fun i hi => by cases hi), ?_⟩, fun i _ => rfl⟩
        cases ro <;> rfl
      exact range_do hsw hat hro hg (Y := []) (tk := t) hnil (fun i hi => by cases hi) (fun _ _ _ _ hi => by cases hi) (fun i v hi => ⟨hi, avV_nil v⟩) hc
    | low Y keep hY hlt hd hk hc =>
      refine range_do hsw hat hro hg (Y := Y) (tk := only t keep) hY (fun i hi => by have := List.all_eq_true.1 hlt i hi; rw [Nat.blt_eq] at this; exact this) (fun l hl r hr hcY => ?_) (fun i v hi => ?_) hc
      · subst hl
        dsimp only at hd
        rw [hr] at hd
        exact memB_not (by simpa using hd) hcY
      · have hin : i ∈ keep := by
          rw [get_only] at hi; split at hi
          · assumption
          · cases hi
        exact ⟨only_get hi, keepAv_mem hk i hin v (only_get hi)⟩
  · exact h'.elim
theorem WpR.of_vc : ∀ {c : Code} {s : St} {Q : Ex → St → Prop}, vc2 P n0 X ro c s Q → WpR P n0 X ro c s Q
  | .skip, s, Q, h => ⟨fun base m0 h0 w0 rr a w hs => wpIn_skip ⟨.normal, s, h, rfl, hs⟩⟩
  | .label _, s, Q, h => ⟨fun base m0 h0 w0 rr a w hs => wpIn_label ⟨.normal, s, h, rfl, hs⟩⟩
  | .region id ops false, ⟨t, nt, marks, hh⟩, Q, h => WpR.region h
  | .region id ops true, s, Q, h => h
  | .seq c1 c2, s, Q, h => by
    refine ⟨fun base m0 h0 w0 rr a w hs => ?_⟩
    refine wpIn_seq ?_
    refine wpIn_mono ((WpR.of_vc (c := c1) h).out base m0 h0 w0 rr a w hs) ?_
    rintro e a1 w1 ⟨ex, s1, hq, rfl, hs1⟩
    cases ex with
    | normal => exact (WpR.of_vc (c := c2) hq).out base m0 h0 w0 rr a1 w1 hs1
    | exit id => exact ⟨_, s1, hq, rfl, hs1⟩
    | ret => exact ⟨_, s1, hq, rfl, hs1⟩
  | .cond x c1 c2, s, Q, h => by
    refine ⟨fun base m0 h0 w0 rr a w hs => ?_⟩
    obtain ⟨m, hsw, hat, hro⟩ := hs
    have h' : (match opX x s.t with
      | some (.bool c) => ifb c (vc2 P n0 X ro c1 s Q) (vc2 P n0 X ro c2 s Q)
      | _ => False) := h
    split at h'
    · rename_i b hx
      have hu := opX_VR hat.tr hx
      have hb : a.eval x = .bool b := by cases hbv : a.eval x <;> rw [hbv] at hu <;> cases hu; rfl
      cases b with
      | true => exact wpIn_cond_true hb ((WpR.of_vc (ifb_1 h' rfl)).out base m0 h0 w0 rr a w ⟨m, hsw, hat, hro⟩)
      | false => exact wpIn_cond_false hb ((WpR.of_vc (ifb_2 h' rfl)).out base m0 h0 w0 rr a w ⟨m, hsw, hat, hro⟩)
    · exact h'.elim
  | .block id c, s, Q, h => by
    refine ⟨fun base m0 h0 w0 rr a w hs => ?_⟩
    refine wpIn_block ?_
    refine wpIn_mono ((WpR.of_vc (c := c) h).out base m0 h0 w0 rr a w hs) ?_
    rintro e a1 w1 ⟨ex, s1, hq, rfl, hs1⟩
    cases ex with
    | normal => exact ⟨_, s1, hq, rfl, hs1⟩
    | ret => exact ⟨_, s1, hq, rfl, hs1⟩
    | exit id' =>
      show Exit.inBlock id _ (.exit id') a1 w1
      simp only [Exit.inBlock]
      dsimp only at hq
      cases hb : Nat.beq id' id with
      | true => rw [hb] at hq; rw [if_pos (Nat.eq_of_beq_eq_true hb)]; exact ⟨.normal, s1, hq, rfl, hs1⟩
      | false => rw [hb] at hq; rw [if_neg (fun he => by subst he; rw [Nat.beq_refl] at hb; cases hb)]; exact ⟨.exit id', s1, hq, rfl, hs1⟩
  | .loop c, s, Q, h => h
  | .scope c, s, Q, h => ⟨fun base m0 h0 w0 rr a w hs => wpIn_scope (fun _ _ _ => PostR.ne_goto) ((WpR.of_vc (c := c) h).out base m0 h0 w0 rr a w hs)⟩
  | .exit id, s, Q, h => ⟨fun base m0 h0 w0 rr a w hs => wpIn_exit ⟨.exit id, s, h, rfl, hs⟩⟩
  | .ret, s, Q, h => ⟨fun base m0 h0 w0 rr a w hs => wpIn_ret ⟨.ret, s, h, rfl, hs⟩⟩
  | .rangeFunc _ _ _ _, s, Q, h => WpR.range h
  | .goto _, s, Q, h => h.elim
  | .refuse _, s, Q, h => h.elim
theorem WpR.draw (hm : P.follows .mixedOrders = true) {id : Nat} {ops : Array Oper} {s : St} {Q : Ex → St → Prop} (perm bs : List Nat) (hchk : chkD P ops perm bs = true)
    (h : vcDs P ops bs s.nt s.marks perm s.t s.h [] fun t' h' tr => stillAll h' tr.reverse tr.reverse ∧ Q .normal ⟨t', s.nt, s.marks, h'⟩) : WpR P n0 X ro (.region id ops true) s Q := by
  obtain ⟨t, nt, marks, hh⟩ := s
  obtain ⟨tr, t', h', hw, hl, hst, hQ⟩ := vcDs_sound h
  rw [List.append_nil, List.reverse_reverse] at hst
  have hc := chkD_spec hchk
  obtain ⟨B, hD⟩ := compD_spec hc
  rw [← hl] at hD
  refine ⟨fun base m0 h0 w0 rr a w hs => ?_⟩
  obtain ⟨m, hsw, hat, hro⟩ := hs
  refine wpIn_region_any hm ?_
  have hlen : ∀ x ∈ tr, x.1.1 < ops.size := fun x hx => by
    obtain ⟨o, h1, _⟩ := hD.mem x.1 (List.mem_map_of_mem hx)
    exact (Array.getElem?_eq_some_iff.1 h1).1
  have hfl : ∀ x ∈ tr, dn (Array.replicate ops.size false) x.1.1 = false := fun x hx => by
    unfold dn
    rw [Array.getD_eq_getD_getElem?, Array.getElem?_eq_getElem (by simpa using hlen x hx)]
    simp
  have hsr0 : SR base m hh w.drew m hh w.drew := .refl hat.hr.drew
  obtain ⟨g1, g2, g3⟩ := seg_sound (S := dn (Array.replicate ops.size false)) hw (fun x hx _ => hfl x hx) hsr0
  refine draw_any (Sf := SfP P) (kf := 0) (fun s hs => hs _ _) (w0 := w.drew) hat.base hD rfl hw (fun e he f hf hwt => stillAll_spec hst e he f hf hwt (hw.read e he f hf hwt)) (Q := PostR base n0 X m0 h0 w0 ro rr Q)
    (fun a' m' w' hsr htr hmk' => ⟨.normal, _, hQ, rfl, SatR.step (s' := ⟨t', nt, marks, h'⟩) hsw hat hro hsr.of_drew htr hmk'⟩) ops.size (Array.replicate ops.size false) a m _ (by simp) ?_ ?_ ⟨g1, hat.tr.1, ?_, hat.mks, g3⟩
  · simp
  · intro x hx hSx; rw [hfl x hx] at hSx; cases hSx
  · intro d v hd
    rw [curT_none (fun x hx _ => hfl x hx)] at hd
    exact hat.tr.2 d v hd
end
end Go.As
/- States of which a part is kept, renamed; loops whose states are told by what changes. -/
namespace Go.As
def ltB (n : Nat) : Blk → Prop
  | .cells c _ _ => ∀ k v, c.get k = some v → ltV n v = true
  | .map es _ => ∀ e ∈ es, ltV n e.2.1 = true
  | .loop L => L.defers < n ∧ ∀ k v, L.tmps.get k = some v → ltV n v = true
  | .iter b _ _ _ => b < n
  | _ => True
def avB (Y : List Nat) : Blk → Prop
  | .cells c _ _ => ∀ k v, c.get k = some v → avV Y v = true
  | .map es _ => ∀ e ∈ es, avV Y e.2.1 = true
  | .loop L => memB Y L.defers = false ∧ ∀ k v, L.tmps.get k = some v → avV Y v = true
  | .iter b _ _ _ => memB Y b = false
  | _ => True
theorem avB_nil : ∀ b : Blk, avB [] b
  | .cells _ _ _ => fun _ v _ => avV_nil v
  | .map _ _ => fun e _ => avV_nil _
  | .loop _ => ⟨rfl, fun _ v _ => avV_nil v⟩
  | .iter _ _ _ _ => rfl
  | .defd _ | .iter0 | .siter _ _ | .dead => trivial
inductive SubQ (ρ : Nat → Nat) : Blk → Blk → Prop
  | cells {c c' : Tr V} {w w' : Bool} {g g' : Option (Nat × Nat)} (hc : ∀ k v, c.get k = some v → c'.get k = some (renV ρ v)) (hw : w = true → w' = true) (hg : g = none ∨ g = g') : SubQ ρ (.cells c w g) (.cells c' w' g')
  | map {es es' : List (Value × V × Nat)} {k : Nat} (h : es' = es.map fun e => (e.1, renV ρ e.2.1, e.2.2)) : SubQ ρ (.map es k) (.map es' k)
  | loop {L L' : Lp} (h1 : L'.defers = ρ L.defers) (ht : ∀ i v, L.tmps.get i = some v → L'.tmps.get i = some (renV ρ v)) (h2 : L'.state = L.state) (h3 : L'.pending = L.pending) (h4 : L'.nt = L.nt) (h5 : L'.params = L.params) (h6 : L'.assign = L.assign) (h7 : L'.body = L.body) : SubQ ρ (.loop L) (.loop L')
  | defd {d : Bool} : SubQ ρ (.defd d) (.defd d)
  | iter {b since last : Nat} {seen : List Nat} : SubQ ρ (.iter b since seen last) (.iter (ρ b) since seen last)
  | iter0 : SubQ ρ .iter0 .iter0
  | siter {s : ByteArray} {p : Nat} : SubQ ρ (.siter s p) (.siter s p)
theorem SubQ.wr {ρ : Nat → Nat} {b b' : Blk} (h : SubQ ρ b b') (hw : b.wr = true) : b'.wr = true := by
  cases h with
  | cells _ h _ => exact h hw
  | _ => rfl
theorem SubQ.live {ρ : Nat → Nat} {b b' : Blk} (h : SubQ ρ b b') : b.live = true ∧ b'.live = true := by cases h <;> exact ⟨rfl, rfl⟩
theorem SubQ.same {ρ : Nat → Nat} {n : Nat} {Y : List Nat} {b : Blk} (hρ : ∀ i, i < n → i ∉ Y → ρ i = i) (hl : ltB n b) (ha : avB Y b) (hd : b.live = true) : SubQ ρ b b := by
  cases b with
  | cells c w g => exact .cells (fun k v h => by rw [renV_av hρ v (hl k v h) (ha k v h)]; exact h) id (.inr rfl)
  | map es k =>
    refine .map ?_
    have : es.map (fun e => (e.1, renV ρ e.2.1, e.2.2)) = es.map id := List.map_congr_left (fun e he => by rw [renV_av hρ _ (hl e he) (ha e he)]; rfl)
    rw [this, List.map_id]
  | loop L => exact .loop (hρ _ hl.1 (memB_not ha.1)).symm (fun i v h => by rw [renV_av hρ v (hl.2 i v h) (ha.2 i v h)]; exact h) rfl rfl rfl rfl rfl rfl
  | defd d => exact .defd
  | iter b since seen last =>
    have := SubQ.iter (ρ := ρ) (b := b) (since := since) (last := last) (seen := seen)
    rw [hρ b hl (memB_not ha)] at this; exact this
  | iter0 => exact .iter0
  | siter s p => exact .siter
  | dead => cases hd
theorem SubQ.BR {ρ : Nat → Nat} {n : Nat} {b b' : Blk} (hs : SubQ ρ b b') (hl : ltB n b) {m m1 : M} (hm : RenM n ρ m m1) {s : Nat × Nat} {o : Option Obj} (h : BR m s o b') : BR m1 s o b := by
  cases hs with
  | cells hc hw hg =>
    obtain ⟨a, e, lo, hi, ho, h1, h2⟩ := h
    refine ⟨a, e, lo, hi, ho, fun k v hv => ?_, fun sz K hgK => ?_⟩
    · obtain ⟨h3, ⟨x, hx, hvx⟩, h4⟩ := h1 k _ (hc k v hv)
      refine ⟨?_, ⟨x, hx, VR.ren hm v (hl k v hv) hvx⟩, h4⟩
      cases v <;> simp [renV, one] at h3 ⊢
    · rcases hg with hg | hg
      · rw [hg] at hgK; cases hgK
      · exact h2 sz K (hg ▸ hgK)
  | map he =>
    subst he
    obtain ⟨hs, a, ho, hl', hc⟩ := h
    refine ⟨hs, a, ho, by simpa using hl', fun k e x hke hx => ?_⟩
    obtain ⟨h1, h2, h3⟩ := hc k (e.1, renV ρ e.2.1, e.2.2) x (by rw [List.getElem?_map, hke]; rfl) hx
    exact ⟨h1, h2, VR.ren hm _ (hl e (List.mem_of_getElem? hke)) h3⟩
  | loop h1 ht h2 h3 h4 h5 h6 h7 =>
    obtain ⟨hs, r, ho, g1, g2, g3, g4, g5, g6, g7⟩ := h
    refine ⟨hs, r, ho, g1.trans h2, g2.trans h3, g3.trans h5, g4.trans h6, g5.trans h7, ?_, ⟨by rw [← h4]; exact g7.1, fun i v hi => ?_⟩⟩
    · rw [hm _ hl.1, ← h1]; exact g6
    · obtain ⟨x, hx, hv⟩ := g7.2 i _ (ht i v hi)
      exact ⟨x, hx, VR.ren hm v (hl.2 i v hi) hv⟩
  | defd => exact h
  | iter =>
    obtain ⟨hs, hls, r, h1, h2⟩ := h
    exact ⟨hs, hls, r, by rw [hm _ hl]; exact h1, h2⟩
  | iter0 => exact h
  | siter => exact h
structure DropQ (n0 : Nat) (X : List Nat) (ro : Option Nat) (ρ : Nat → Nat) (s1 s : St) : Prop where
  nt : s1.nt = s.nt
  marks : s.marks = s1.marks.map ρ
  mlt : ∀ i ∈ s1.marks, i < s1.h.n
  old : n0 ≤ s1.h.n
  idn : ∀ i, i < n0 → i ∉ X → ρ i = i
  ro : ∀ l, ro = some l → l < s1.h.n ∧ ρ l = l
  tmp : ∀ i v, s1.t.get i = some v → s.t.get i = some (renV ρ v) ∧ ltV s1.h.n v = true
  blk : ∀ i b, s1.h.get i = some b → i < s1.h.n ∧ (b = .dead ∨ ∃ b', s.h.get (ρ i) = some b' ∧ SubQ ρ b b' ∧ ltB s1.h.n b)
  inj : ∀ i j bi bj, s1.h.get i = some bi → s1.h.get j = some bj → bi.live = true → bj.live = true → ρ i = ρ j → i = j
def mren (n : Nat) (ρ : Nat → Nat) (m : M) : M := ⟨fun i => if i < n then m (ρ i) else none, m.fz⟩
theorem mren_at {n : Nat} {ρ : Nat → Nat} {m : M} {i : Nat} : mren n ρ m i = if i < n then m (ρ i) else none := rfl
theorem mren_lt {n : Nat} {ρ : Nat → Nat} {m : M} : ∀ i, i < n → mren n ρ m i = m (ρ i) := fun i h => if_pos h
theorem mrenOk {n : Nat} {ρ : Nat → Nat} {m : M} : RenM n ρ m (mren n ρ m) := ⟨mren_lt, fun _ _ h => h⟩
theorem mren_some {n : Nat} {ρ : Nat → Nat} {m : M} {i : Nat} {p : Nat × Nat × Nat} (h : mren n ρ m i = some p) : i < n ∧ m (ρ i) = some p := by
  rw [mren_at] at h; split at h
  · rename_i hi; exact ⟨hi, h⟩
  · cases h
theorem MK.ren0 {Z : Option Nat} {n : Nat} {ρ : Nat → Nat} {m : M} {l' : List Nat} {ds : List Deferred} (h : MK Z m l' ds) : ∀ {l : List Nat}, l' = l.map ρ → (∀ i ∈ l, i < n) → MK Z (mren n ρ m) l ds := by
  induction h with
  | nil => intro l he _; cases l with | nil => exact .nil | cons i l => cases he
  | cons hm hz hn _ ih =>
    intro l he hl
    cases l with
    | nil => cases he
    | cons i l =>
      rw [List.map_cons] at he
      injection he with h1 h2
      subst h1
      exact .cons (by rw [mren_lt i (hl i (by simp))]; exact hm) hz hn (ih h2 (fun j hj => hl j (by simp [hj])))
  | skip hz hf hn _ ih => intro l he hl; exact .skip hz hf hn (ih he hl)
theorem MK.ren {Z : Option Nat} {n : Nat} {ρ : Nat → Nat} {m : M} {l : List Nat} {ds : List Deferred} (h : MK Z m (l.map ρ) ds) (hl : ∀ i ∈ l, i < n) : MK Z (mren n ρ m) l ds := h.ren0 rfl hl
theorem MK.mapped {Z : Option Nat} {m : M} {l : List Nat} {ds : List Deferred} (h : MK Z m l ds) : ∀ i ∈ l, ∃ r, m i = some (r, 0, 0) := by
  induction h with
  | nil => intro i hi; cases hi
  | cons hm _ _ _ ih => intro i hi; rcases List.mem_cons.1 hi with rfl | hi; exact ⟨_, hm⟩; exact ih i hi
  | skip _ _ _ _ ih => exact ih
section
variable {base : Nat} {P : Program}
theorem DropQ.hr {n0 : Nat} {X : List Nat} {ro : Option Nat} {ρ : Nat → Nat} {s1 s : St} (d : DropQ n0 X ro ρ s1 s) {m : M} {w : World} (hr : HR base m s.h w) : HR base (mren s1.h.n ρ m) s1.h w where
  blk := fun i b r s' hi hm => by
    obtain ⟨hlt, h⟩ := d.blk i b hi
    rcases h with rfl | ⟨b', hb', hsub, hl⟩
    · trivial
    · exact hsub.BR hl mrenOk (hr.blk _ b' r s' hb' (mren_some hm).2)
  inj := fun i j bi bj r s' s'' hi hj hw hl hmi hmj => by
    obtain ⟨_, hi'⟩ := d.blk i bi hi
    obtain ⟨_, hj'⟩ := d.blk j bj hj
    rcases hi' with rfl | ⟨bi', hbi, hsi, _⟩
    · cases hw
    rcases hj' with rfl | ⟨bj', hbj, hsj, _⟩
    · cases hl
    exact d.inj i j bi bj hi hj hsi.live.1 hl (hr.inj _ _ bi' bj' r s' s'' hbi hbj (hsi.wr hw) hsj.live.2 (mren_some hmi).2 (mren_some hmj).2)
  own := fun i b r s' hi hw hm => by
    obtain ⟨_, hi'⟩ := d.blk i b hi
    rcases hi' with rfl | ⟨bi', hbi, hsi, _⟩
    · cases hw
    exact hr.own _ bi' r s' hbi (hsi.wr hw) (mren_some hm).2
  frz := hr.frz
  nfz := fun i b r s' hi hw hm => by
    obtain ⟨_, hi'⟩ := d.blk i b hi
    rcases hi' with rfl | ⟨bi', hbi, hsi, _⟩
    · cases hw
    exact hr.nfz _ bi' r s' hbi (hsi.wr hw) (mren_some hm).2
  rng := fun i r s' hm => hr.rng _ r s' (mren_some hm).2
  lt := fun i b hi => (d.blk i b hi).1
  dom := fun i hi => by rw [mren_at, if_neg (by omega)]
theorem DropQ.sat {n0 : Nat} {X : List Nat} {ro rr : Option Nat} {ρ : Nat → Nat} {s1 s : St} (d : DropQ n0 X ro ρ s1 s) {m0 : M} {h0 : H} {w0 : World} {a : Act} {w : World} (h : SatR base n0 X m0 h0 w0 ro rr s a w) : SatR base n0 X m0 h0 w0 ro rr s1 a w := by
  obtain ⟨m, hsw, hat, hro⟩ := h
  refine ⟨mren s1.h.n ρ m, ?_, ⟨d.hr hat.hr, hat.base, ⟨by rw [d.nt]; exact hat.tr.1, fun i v hi => ?_⟩, by have := hat.mks; rw [d.marks] at this; exact this.ren d.mlt⟩, ?_⟩
  · exact {
      same := fun i hi hX => by
        rw [mren_lt i (by have := d.old; omega), d.idn i hi hX]
        exact hsw.same i hi hX
      hr := d.hr hat.hr
      fzx := hsw.fzx
      fzn := hsw.fzn
      n := d.old
      os := hsw.os
      tape := hsw.tape
      output := hsw.output
      size := hsw.size
      frame := hsw.frame
      fresh := fun i b r s' hi hw hm => by
        obtain ⟨_, hi'⟩ := d.blk i b hi
        rcases hi' with rfl | ⟨b', hb', hsub, _⟩
        · cases hw
        exact hsw.fresh _ b' r s' hb' (hsub.wr hw) (mren_some hm).2 }
  · obtain ⟨h1, h2⟩ := d.tmp i v hi
    obtain ⟨x, hx, hv⟩ := hat.tr.2 i _ h1
    exact ⟨x, hx, VR.ren mrenOk v h2 hv⟩
  · cases ro with
    | none => cases rr <;> first | exact hro | exact hro.elim
    | some l =>
      cases rr with
      | none => exact hro.elim
      | some r =>
        have hro' : m l = some (r, 0, 0) := hro
        obtain ⟨h1, h2⟩ := d.ro l rfl
        show mren s1.h.n ρ m l = some (r, 0, 0)
        rw [mren_lt l h1, h2]
        exact hro'
noncomputable def setTs (t : Tr V) : List (Nat × V) → Tr V
  | [] => t
  | (i, v) :: l => strictT (setTs t l) fun t => strictT (t.set i v) fun t => t
noncomputable def setBs (t : Tr Blk) : List (Nat × Blk) → Tr Blk
  | [] => t
  | (i, v) :: l => strictT (setBs t l) fun t => strictT (t.set i v) fun t => t
theorem setTs_get {t : Tr V} : ∀ {l : List (Nat × V)} {i : Nat} {v : V}, (setTs t l).get i = some v → (i, v) ∈ l ∨ t.get i = some v ∧ ∀ u, (i, u) ∉ l
  | [], i, v, h => .inr ⟨h, fun u hu => by cases hu⟩
  | (j, u) :: l, i, v, h => by
    have h' : (strictT (setTs t l) fun t => strictT (t.set j u) fun t => t).get i = some v := h
    rw [strictT_eq, strictT_eq, Tr.get_set] at h'
    split at h'
    · rename_i he; cases h'; rw [he]; exact .inl List.mem_cons_self
    · rename_i he
      rcases setTs_get h' with h2 | ⟨h2, h3⟩
      · exact .inl (List.mem_cons_of_mem _ h2)
      · refine .inr ⟨h2, fun w hw => ?_⟩
        rcases List.mem_cons.1 hw with hw | hw
        · cases hw; exact he rfl
        · exact h3 w hw
theorem setBs_get {t : Tr Blk} : ∀ {l : List (Nat × Blk)} {i : Nat} {v : Blk}, (setBs t l).get i = some v → (i, v) ∈ l ∨ t.get i = some v ∧ ∀ u, (i, u) ∉ l
  | [], i, v, h => .inr ⟨h, fun u hu => by cases hu⟩
  | (j, u) :: l, i, v, h => by
    have h' : (strictT (setBs t l) fun t => strictT (t.set j u) fun t => t).get i = some v := h
    rw [strictT_eq, strictT_eq, Tr.get_set] at h'
    split at h'
    · rename_i he; cases h'; rw [he]; exact .inl List.mem_cons_self
    · rename_i he
      rcases setBs_get h' with h2 | ⟨h2, h3⟩
      · exact .inl (List.mem_cons_of_mem _ h2)
      · refine .inr ⟨h2, fun w hw => ?_⟩
        rcases List.mem_cons.1 hw with hw | hw
        · cases hw; exact he rfl
        · exact h3 w hw
def rho : List (Nat × Nat) → Nat → Nat
  | [], i => i
  | (a, b) :: l, i => match Nat.beq i a with
    | true => b
    | false => rho l i
def injB (rl : List (Nat × Nat)) (dd : List Nat) (n : Nat) : Bool :=
  (List.range n).all fun i => memB dd i || (List.range i).all fun j => memB dd j || !Nat.beq (rho rl i) (rho rl j)
theorem injB_spec {rl : List (Nat × Nat)} {dd : List Nat} {n : Nat} (h : injB rl dd n = true) {i j : Nat} (hi : i < n) (hj : j < n) (hdi : i ∉ dd) (hdj : j ∉ dd) (he : rho rl i = rho rl j) : i = j := by
  have key : ∀ i j, i < n → j < i → i ∉ dd → j ∉ dd → rho rl i ≠ rho rl j := by
    intro i j hi hj hdi hdj he
    unfold injB at h
    have h1 := List.all_eq_true.1 h i (List.mem_range.2 hi)
    have hni : memB dd i = false := by rw [← Bool.not_eq_true, memB_iff]; exact hdi
    rw [hni, Bool.false_or] at h1
    have h2 := List.all_eq_true.1 h1 j (List.mem_range.2 hj)
    have hnj : memB dd j = false := by rw [← Bool.not_eq_true, memB_iff]; exact hdj
    rw [hnj, Bool.false_or, he, Nat.beq_refl] at h2
    cases h2
  rcases Nat.lt_trichotomy i j with hlt | rfl | hlt
  · exact absurd he.symm (key j i hj hlt hdj hdi)
  · rfl
  · exact absurd he (key i j hi hlt hdi hdj)
def rlGe (k : Nat) (Y : List Nat) : List (Nat × Nat) → Bool
  | [] => true
  | (a, _) :: l => (Nat.ble k a || memB Y a) && rlGe k Y l
theorem rho_id {k : Nat} {Y : List Nat} : ∀ {rl : List (Nat × Nat)}, rlGe k Y rl = true → ∀ i, i < k → i ∉ Y → rho rl i = i
  | [], _, i, _, _ => rfl
  | (a, b) :: l, h, i, hi, hY => by
    simp only [rlGe, Bool.and_eq_true, Bool.or_eq_true] at h
    unfold rho
    cases hb : Nat.beq i a with
    | true =>
      have := Nat.eq_of_beq_eq_true hb
      subst this
      rcases h.1 with h1 | h1
      · have := Nat.le_of_ble_eq_true h1; omega
      · exact absurd (memB_iff.1 h1) hY
    | false => exact rho_id h.2 i hi hY
noncomputable def stD (s0 : St) (keep : List Nat) (tv : List (Nat × V)) (hv : List (Nat × Blk)) (n1 : Nat) : St :=
  ⟨setTs (only s0.t keep) tv, s0.nt, s0.marks, ⟨setBs s0.h.t hv, n1, 0⟩⟩
def eqTs (ρ : Nat → Nat) (t : Tr V) : List (Nat × V) → Prop
  | [] => True
  | (i, v) :: l => t.get i = some (renV ρ v) ∧ eqTs ρ t l
def keepTs (t0 t : Tr V) : List Nat → Prop
  | [] => True
  | i :: l => t.get i = t0.get i ∧ keepTs t0 t l
def eqBs (ρ : Nat → Nat) (h : H) : List (Nat × Blk) → Prop
  | [] => True
  | (i, b) :: l => (b = .dead ∨ ∃ b', h.get (ρ i) = some b' ∧ SubQ ρ b b') ∧ eqBs ρ h l
def keepBs (h0 h : H) (skip : List Nat) : Nat → Prop
  | 0 => True
  | i + 1 => (match memB skip i with | true => True | false => h.get i = h0.get i) ∧ keepBs h0 h skip i
def wfBs (n : Nat) (Y : List Nat) (h0 : H) (skip : List Nat) : Nat → Prop
  | 0 => True
  | i + 1 => (match memB skip i with | true => True | false => (match h0.get i with | some b => ltB n b ∧ avB Y b | none => True)) ∧ wfBs n Y h0 skip i
def ltTs (n : Nat) : List (Nat × V) → Prop
  | [] => True
  | (_, v) :: l => ltV n v = true ∧ ltTs n l
def ltBs (n : Nat) : List (Nat × Blk) → Prop
  | [] => True
  | (i, b) :: l => (i < n ∧ ltB n b) ∧ ltBs n l
def deadBs (dd : List Nat) : List (Nat × Blk) → Prop
  | [] => True
  | (i, b) :: l => (match memB dd i with | true => b = .dead | false => True) ∧ deadBs dd l
theorem eqTs_mem {ρ : Nat → Nat} {t : Tr V} : ∀ {l : List (Nat × V)}, eqTs ρ t l → ∀ p ∈ l, t.get p.1 = some (renV ρ p.2)
  | q :: l, ⟨h1, h2⟩, p, hp => by
    rcases List.mem_cons.1 hp with rfl | hp
    · exact h1
    · exact eqTs_mem h2 p hp
theorem keepTs_mem {t0 t : Tr V} : ∀ {l : List Nat}, keepTs t0 t l → ∀ i ∈ l, t.get i = t0.get i
  | q :: l, ⟨h1, h2⟩, p, hp => by
    rcases List.mem_cons.1 hp with rfl | hp
    · exact h1
    · exact keepTs_mem h2 p hp
theorem eqBs_mem {ρ : Nat → Nat} {h : H} : ∀ {l : List (Nat × Blk)}, eqBs ρ h l → ∀ p ∈ l, p.2 = .dead ∨ ∃ b', h.get (ρ p.1) = some b' ∧ SubQ ρ p.2 b'
  | q :: l, ⟨h1, h2⟩, p, hp => by
    rcases List.mem_cons.1 hp with rfl | hp
    · exact h1
    · exact eqBs_mem h2 p hp
theorem keepBs_mem {h0 h : H} {skip : List Nat} : ∀ {n : Nat}, keepBs h0 h skip n → ∀ i, i < n → i ∉ skip → h.get i = h0.get i
  | n + 1, ⟨h1, h2⟩, i, hi, hs => by
    rcases Nat.lt_succ_iff_lt_or_eq.1 hi with hi | rfl
    · exact keepBs_mem h2 i hi hs
    · have : memB skip i = false := by rw [← Bool.not_eq_true, memB_iff]; exact hs
      rw [this] at h1; exact h1
theorem wfBs_mem {k : Nat} {Y : List Nat} {h0 : H} {skip : List Nat} : ∀ {n : Nat}, wfBs k Y h0 skip n → ∀ i b, i < n → i ∉ skip → h0.get i = some b → ltB k b ∧ avB Y b
  | n + 1, ⟨h1, h2⟩, i, b, hi, hs, hb => by
    rcases Nat.lt_succ_iff_lt_or_eq.1 hi with hi | rfl
    · exact wfBs_mem h2 i b hi hs hb
    · have : memB skip i = false := by rw [← Bool.not_eq_true, memB_iff]; exact hs
      rw [this, hb] at h1; exact h1
theorem ltTs_mem {n : Nat} : ∀ {l : List (Nat × V)}, ltTs n l → ∀ p ∈ l, ltV n p.2 = true
  | q :: l, ⟨h1, h2⟩, p, hp => by
    rcases List.mem_cons.1 hp with rfl | hp
    · exact h1
    · exact ltTs_mem h2 p hp
theorem ltBs_mem {n : Nat} : ∀ {l : List (Nat × Blk)}, ltBs n l → ∀ p ∈ l, p.1 < n ∧ ltB n p.2
  | q :: l, ⟨h1, h2⟩, p, hp => by
    rcases List.mem_cons.1 hp with rfl | hp
    · exact h1
    · exact ltBs_mem h2 p hp
theorem deadBs_mem {dd : List Nat} : ∀ {l : List (Nat × Blk)}, deadBs dd l → ∀ p ∈ l, p.1 ∈ dd → p.2 = .dead
  | q :: l, ⟨h1, h2⟩, p, hp, hd => by
    rcases List.mem_cons.1 hp with rfl | hp
    · rw [memB_iff.2 hd] at h1; exact h1
    · exact deadBs_mem h2 p hp hd
theorem ltB.mono {n k : Nat} (hk : n ≤ k) {b : Blk} (h : ltB n b) : ltB k b := by
  cases b with
  | cells c w g => exact fun i v hv => ltV.mono hk v (h i v hv)
  | map es c => exact fun e he => ltV.mono hk _ (h e he)
  | loop L => exact ⟨Nat.lt_of_lt_of_le h.1 hk, fun i v hv => ltV.mono hk v (h.2 i v hv)⟩
  | iter b _ _ _ => exact Nat.lt_of_lt_of_le h hk
  | _ => trivial
structure Back (s0 : St) (Y keep : List Nat) (tv : List (Nat × V)) (hv : List (Nat × Blk)) (n1 : Nat) (dd : List Nat) (rl : List (Nat × Nat)) (s : St) : Prop where
  nt : s.nt = s0.nt
  marks : s.marks = s0.marks
  kt : keepTs s0.t s.t keep
  et : eqTs (rho rl) s.t tv
  kb : keepBs s0.h s.h (hv.map (·.1)) s0.h.n
  eb : eqBs (rho rl) s.h hv
  rge : rlGe s0.h.n Y rl = true
  inj : injB rl dd n1 = true
theorem Back.drop {n0 : Nat} {X : List Nat} {ro : Option Nat} {s0 : St} {Y keep : List Nat} {tv : List (Nat × V)} {hv : List (Nat × Blk)} {n1 : Nat} {dd : List Nat} {rl : List (Nat × Nat)} {s : St} (b : Back s0 Y keep tv hv n1 dd rl s)
    (hY : mayMove n0 X ro s0.marks Y = true) (hYs : ∀ i ∈ Y, i ∈ hv.map (·.1)) (hn0 : n0 ≤ s0.h.n) (hn1 : s0.h.n ≤ n1) (hlt : ∀ i b, s0.h.get i = some b → i < s0.h.n) (hro : ∀ l, ro = some l → l < s0.h.n) (hmk : ∀ i ∈ s0.marks, i < s0.h.n)
    (hkt : ∀ i ∈ keep, ∀ v, s0.t.get i = some v → ltV s0.h.n v = true ∧ avV Y v = true) (hwf : wfBs s0.h.n Y s0.h (hv.map (·.1)) s0.h.n) (htv : ltTs n1 tv) (hhv : ltBs n1 hv) (hdd : deadBs dd hv) (hds : ∀ i ∈ dd, i ∈ hv.map (·.1)) : DropQ n0 X ro (rho rl) (stD s0 keep tv hv n1) s := by
  have hid := rho_id b.rge
  obtain ⟨y1, y2, y3⟩ := mayMove_spec hY
  have hblk : ∀ i bi, (stD s0 keep tv hv n1).h.get i = some bi → (i, bi) ∈ hv ∨ s0.h.get i = some bi ∧ i < s0.h.n ∧ i ∉ hv.map (·.1) := by
    intro i bi hi
    rcases setBs_get (show (setBs s0.h.t hv).get i = some bi from hi) with h | ⟨h, hno⟩
    · exact .inl h
    · refine .inr ⟨h, hlt i bi h, fun hc => ?_⟩
      obtain ⟨p, hp, rfl⟩ := List.mem_map.1 hc
      exact hno p.2 hp
  have hlt1 : ∀ i bi, (stD s0 keep tv hv n1).h.get i = some bi → i < n1 := by
    intro i bi hi
    rcases hblk i bi hi with h | ⟨_, h, _⟩
    · exact (ltBs_mem hhv _ h).1
    · omega
  exact {
    nt := b.nt.symm
    marks := by
      rw [b.marks]
      have : ∀ l : List Nat, (∀ i ∈ l, i < s0.h.n ∧ i ∉ Y) → l.map (rho rl) = l := by
        intro l
        induction l with
        | nil => intro _; rfl
        | cons x l ih => intro h; rw [List.map_cons, hid x (h x (by simp)).1 (h x (by simp)).2, ih (fun i hi => h i (by simp [hi]))]
      exact (this s0.marks (fun i hi => ⟨hmk i hi, y3 i hi⟩)).symm
    mlt := fun i hi => Nat.lt_of_lt_of_le (hmk i hi) hn1
    old := Nat.le_trans hn0 hn1
    idn := fun i hi hX => hid i (by omega) (fun hc => (y1 i hc).elim (fun h => absurd hi (Nat.not_lt.2 h)) hX)
    ro := fun l hl => ⟨Nat.lt_of_lt_of_le (hro l hl) hn1, hid l (hro l hl) (y2 l hl)⟩
    tmp := fun i v hi => by
      rcases setTs_get (show (setTs (only s0.t keep) tv).get i = some v from hi) with h | ⟨h, _⟩
      · exact ⟨eqTs_mem b.et _ h, ltTs_mem htv _ h⟩
      · have hk : i ∈ keep := by
          rw [get_only] at h; split at h
          · rename_i hh; exact hh
          · cases h
        have h0 := only_get h
        obtain ⟨hl, hav⟩ := hkt i hk v h0
        refine ⟨?_, ltV.mono hn1 v hl⟩
        rw [keepTs_mem b.kt i hk, h0, renV_av hid v hl hav]
    blk := fun i bi hi => by
      refine ⟨hlt1 i bi hi, ?_⟩
      rcases hblk i bi hi with h | ⟨h, hin, hns⟩
      · rcases eqBs_mem b.eb _ h with h1 | ⟨b', h1, h2⟩
        · exact .inl h1
        · exact .inr ⟨b', h1, h2, (ltBs_mem hhv _ h).2⟩
      · cases hbl : bi.live with
        | false => left; cases bi <;> first | rfl | cases hbl
        | true =>
          obtain ⟨hl, hav⟩ := wfBs_mem hwf i bi hin hns h
          by_cases hiY : i ∈ Y
          · exact absurd (hYs i hiY) hns
          · right
            exact ⟨bi, by rw [hid i hin hiY, keepBs_mem b.kb i hin hns]; exact h, SubQ.same hid hl hav hbl, hl.mono hn1⟩
    inj := fun i j bi bj hi hj hli hlj he => by
      have nd : ∀ i bi, (stD s0 keep tv hv n1).h.get i = some bi → bi.live = true → i ∉ dd := by
        intro i bi hi hl hc
        rcases hblk i bi hi with h | ⟨_, _, hns⟩
        · have hde : bi = .dead := deadBs_mem hdd _ h hc
          rw [hde] at hl; cases hl
        · exact hns (hds i hc)
      exact injB_spec b.inj (hlt1 i bi hi) (hlt1 j bj hj) (nd i bi hi hli) (nd j bj hj hlj) he }
theorem SatR.facts {n0 : Nat} {X : List Nat} {m0 : M} {h0 : H} {w0 : World} {ro rr : Option Nat} {s : St} {a : Act} {w : World} (h : SatR base n0 X m0 h0 w0 ro rr s a w) :
    (∀ i b, s.h.get i = some b → i < s.h.n) ∧ (∀ l, ro = some l → l < s.h.n) ∧ (∀ i ∈ s.marks, i < s.h.n) ∧ (∀ i v, s.t.get i = some v → ltV s.h.n v = true) := by
  obtain ⟨m, hsw, hat, hro⟩ := h
  refine ⟨hat.hr.lt, fun l hl => ?_, ?_, fun i v hi => ?_⟩
  · subst hl
    cases rr with
    | none => exact hro.elim
    | some r =>
      have hro' : m l = some (r, 0, 0) := hro
      exact Nat.lt_of_not_le (fun hc => by rw [hat.hr.dom l hc] at hro'; cases hro')
  · intro i hi
    obtain ⟨r, h1⟩ := hat.mks.mapped i hi
    exact Nat.lt_of_not_le (fun hc => by rw [hat.hr.dom i hc] at h1; cases h1)
  · obtain ⟨x, _, hv⟩ := hat.tr.2 i v hi
    exact VR.ltV hat.hr.dom v hv
theorem WpR.back {n0 : Nat} {X : List Nat} {ro : Option Nat} {c : Code} {s0 : St} {Q : Ex → St → Prop} (Y keep : List Nat) (tv : List (Nat × V)) (hv : List (Nat × Blk)) (n1 : Nat) (dd : List Nat) (rl : List (Nat × Nat)) (hb : Back s0 Y keep tv hv n1 dd rl s0)
    (hY : mayMove n0 X ro s0.marks Y = true) (hYs : (Y.all fun i => memB (hv.map (·.1)) i) = true) (hn1 : Nat.ble s0.h.n n1 = true) (hka : keepAv Y s0.t keep) (hwf : wfBs s0.h.n Y s0.h (hv.map (·.1)) s0.h.n) (htv : ltTs n1 tv) (hhv : ltBs n1 hv) (hdd : deadBs dd hv) (hds : (dd.all fun i => memB (hv.map (·.1)) i) = true)
    (h : WpR P n0 X ro c (stD s0 keep tv hv n1) Q) : WpR P n0 X ro c s0 Q := by
  refine ⟨fun base m0 h0 w0 rr a w hs => ?_⟩
  obtain ⟨f1, f2, f3, f4⟩ := hs.facts
  have hn0 : n0 ≤ s0.h.n := by obtain ⟨m, hsw, _⟩ := hs; exact hsw.n
  exact h.out base m0 h0 w0 rr a w ((hb.drop hY (fun i hi => memB_iff.1 (List.all_eq_true.1 hYs i hi)) hn0 (Nat.le_of_ble_eq_true hn1) f1 f2 f3 (fun i hi v hv => ⟨f4 i v hv, keepAv_mem hka i hi v hv⟩) hwf htv hhv hdd (fun i hi => memB_iff.1 (List.all_eq_true.1 hds i hi))).sat hs)
theorem WpR.loopD {n0 : Nat} {X : List Nat} {ro : Option Nat} {ι : Type} {c : Code} {s0 : St} {Q : Ex → St → Prop} (Y keep : List Nat) (ids dd : List Nat) (n1 : Nat) (tv : ι → List (Nat × V)) (hv : ι → List (Nat × Blk)) (μ : ι → Nat) (J : ι → Prop)
    (hI : ∀ x, J x → WpR P n0 X ro c (stD s0 keep (tv x) (hv x) n1) (fun ex s' => match ex with | .normal => ∃ y rl, μ y < μ x ∧ J y ∧ Back s0 Y keep (tv y) (hv y) n1 dd rl s' | ex => Q ex s'))
    (x0 : ι) (h0 : J x0) (rl0 : List (Nat × Nat)) (hb : Back s0 Y keep (tv x0) (hv x0) n1 dd rl0 s0)
    (hY : mayMove n0 X ro s0.marks Y = true) (hYs : (Y.all fun i => memB ids i) = true) (hn1 : Nat.ble s0.h.n n1 = true) (hids : ∀ x, (hv x).map (·.1) = ids) (hka : keepAv Y s0.t keep) (hwf : wfBs s0.h.n Y s0.h ids s0.h.n) (htv : ∀ x, J x → ltTs n1 (tv x)) (hhv : ∀ x, J x → ltBs n1 (hv x)) (hdd : ∀ x, J x → deadBs dd (hv x))
    (hds : (dd.all fun i => memB ids i) = true) : WpR P n0 X ro (.loop c) s0 Q := by
  refine ⟨fun base m0 h0' w0 rr a w hs => ?_⟩
  obtain ⟨f1, f2, f3, f4⟩ := hs.facts
  have hn0 : n0 ≤ s0.h.n := by obtain ⟨m, hsw, _⟩ := hs; exact hsw.n
  have hdrop : ∀ (y : ι) (rl : List (Nat × Nat)) (s' : St), J y → Back s0 Y keep (tv y) (hv y) n1 dd rl s' → DropQ n0 X ro (rho rl) (stD s0 keep (tv y) (hv y) n1) s' := fun y rl s' hy hb =>
    hb.drop hY (fun i hi => by rw [hids]; exact memB_iff.1 (List.all_eq_true.1 hYs i hi)) hn0 (Nat.le_of_ble_eq_true hn1) f1 f2 f3 (fun i hi v hv => ⟨f4 i v hv, keepAv_mem hka i hi v hv⟩) (by rw [hids]; exact hwf) (htv y hy) (hhv y hy) (hdd y hy) (fun i hi => by rw [hids]; exact memB_iff.1 (List.all_eq_true.1 hds i hi))
  have key : ∀ (k : Nat) (x : ι), μ x < k → J x → ∀ (a : Act) (w : World), SatR base n0 X m0 h0' w0 ro rr (stD s0 keep (tv x) (hv x) n1) a w → Code.roundsIn (rf rr) 0 P c (PostR base n0 X m0 h0' w0 ro rr Q) k a w := by
    intro k
    induction k with
    | zero => intro x hx; omega
    | succ k ih =>
      intro x hx hJ a w hs
      rw [roundsIn_succ]
      refine wpIn_mono ((hI x hJ).out base m0 h0' w0 rr a w hs) ?_
      rintro e a1 w1 ⟨ex, s', hq, rfl, hs'⟩
      cases ex with
      | normal => obtain ⟨y, rl, h1, h2, h3⟩ := hq; exact ih y (by omega) h2 a1 w1 ((hdrop y rl s' h2 h3).sat hs')
      | exit id => exact ⟨_, s', hq, rfl, hs'⟩
      | ret => exact ⟨_, s', hq, rfl, hs'⟩
  exact wpIn_loop_rounds (μ x0 + 1) (key (μ x0 + 1) x0 (by omega) h0 a w ((hdrop x0 rl0 s0 h0 hb).sat hs))
end
end Go.As
