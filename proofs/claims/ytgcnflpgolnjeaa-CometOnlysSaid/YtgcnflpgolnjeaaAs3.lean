/- The machine that the proof runs on, part 3 of 6: texts of my own, put together by program. No statement is proved here. -/
import Derived.Test.YtgcnflpgolnjeaaAs2
import Derived.OrdersIn
import Derived.ChangeSame
set_option linter.unusedVariables false
set_option linter.unusedSimpArgs false
/- Rounds, and ranges over functions. -/
namespace Go.As
section
variable {base kf : Nat} {P : Program} {self : Rq → Option Rs}
theorem loop_at {m : M} {h : H} {w : World} (hr : HR base m h w) {l r : Nat} {L : Lp} (hg : h.get l = some (.loop L)) (hm : m l = some (r, 0, 0)) :
    ∃ R : Loop, w.heap[r]? = some (.loop R) ∧ R.state = L.state ∧ R.pending = L.pending ∧ R.params.toList = L.params ∧ R.assign = L.assign ∧ R.body = L.body ∧ m L.defers = some (R.defers, 0, 0) ∧ TR m L.tmps L.nt R.tmps :=
  (hr.blk l _ r (0, 0) hg hm).2
theorem endRound_sound {m : M} {h : H} {w : World} (hr : HR base m h w) {l r : Nat} (hm : m l = some (r, 0, 0)) {x : Ex} {v : V} {h' : H} (he : endRound l x h = some (.val v h')) {Rp : Ending → World → Prop} (a : Act)
    (hK : ∀ w', SR base m h w m h' w' → ∀ y, VR m v y → Rp (.returned y) w') : roundPost P r Rp x.to a w := by
  unfold endRound at he
  split at he
  · rename_i L hg
    obtain ⟨R, ho, _⟩ := loop_at hr hg hm
    cases x with
    | normal =>
      cases he
      exact ⟨_, _, run_endRound none ho, hK _ (loop_put hr hg hm ho .ready none) _ (.bool true)⟩
    | ret =>
      cases he
      exact ⟨_, _, run_endRound (some .ret) ho, hK _ (loop_put hr hg hm ho .done (some .ret)) _ (.bool false)⟩
    | exit id =>
      cases he
      exact ⟨_, _, run_endRound (some (.exit id)) ho, hK _ (loop_put hr hg hm ho .done (some (.exit id))) _ (.bool false)⟩
  · cases he
end
end Go.As
/- The machine's answer is the program's. -/
namespace Go.As
section
variable {P : Program}
def OrcOk (P : Program) (orc : Orc) : Prop := ∀ (f : FuncId) (args : List V) (v : V), orc f args = some v → ∀ (base : Nat) (m : M) (h : H) (w : World) (xs : List Value), HR base m h w → base ≤ w.heap.size → VRs m args xs →
  (∃ fn, P.funcs[f]? = some fn ∧ fn.body.isSome = true ∧ (fn.name == "runtime.NumGoroutine") = false) ∧ CallsIn Fence.wide 0 P f xs.toArray w (PostV base m h w v h)
theorem OrcOk.none (P : Program) : OrcOk P (fun _ _ => none) := fun _ _ _ h => by cases h
theorem HR.emptyF {m : M} {w : World} (hp : ∀ i, m i = none) (hz : ∀ r p, m.fz r = some p → FzO p (w.heap[r]?)) : HR w.heap.size m H.empty w where
  blk := fun i b r s _ hm => by rw [hp i] at hm; cases hm
  inj := fun i j bi bj r s s' _ _ _ _ hm => by rw [hp i] at hm; cases hm
  own := fun i b r s _ _ hm => by rw [hp i] at hm; cases hm
  rng := fun i r s hm => by rw [hp i] at hm; cases hm
  frz := hz
  nfz := fun i b r s _ _ hm => by rw [hp i] at hm; cases hm
  lt := fun i b hi => by
    have : (Tr.leaf : Tr Blk).get i = some b := hi
    rw [Tr.get_leaf] at this; cases this
  dom := fun i _ => hp i
theorem HR.empty (w : World) : HR w.heap.size M.no H.empty w := .emptyF (fun _ => rfl) (fun r p h => by cases h)
end
end Go.As
/- Regions that draw their order: what the machine's checks say. -/
namespace Go.As
theorem get_only (t : Tr V) : ∀ (l : List Nat) (d : Nat), (only t l).get d = if d ∈ l then t.get d else none := by
  intro l
  induction l with
  | nil => intro d; simp [only, Tr.get_leaf]
  | cons e l ih =>
    intro d
    have hdef : only t (e :: l) = match t.get e with | some v => strictT ((only t l).set e v) fun t => t | none => only t l := rfl
    rw [hdef]
    cases hg : t.get e with
    | some v =>
      dsimp only
      rw [strictT_eq, Tr.get_set]
      by_cases he : d = e
      · subst he; simp [hg]
      · rw [if_neg he, ih]; simp [he]
    | none =>
      dsimp only
      rw [ih]
      by_cases he : d = e
      · subst he
        by_cases hm : d ∈ l <;> simp [hm, hg]
      · simp [he]
theorem eq0_eq {a b : V} (h : eq0 a b = true) : a = b := by
  cases a <;> cases b <;> first
    | (simp_all [eq0]; done)
    | (rename_i k n j l
       simp only [eq0, Bool.and_eq_true] at h
       obtain ⟨h1, h2⟩ := h
       have h1' : k = j := by simpa using h1
       subst h1'
       cases n <;> cases l <;> simp only [ieq] at h2 <;> first | (rw [Nat.eq_of_beq_eq_true h2]; done) | cases h2)
    | (rename_i a b
       obtain ⟨⟨a⟩⟩ := a
       obtain ⟨⟨b⟩⟩ := b
       have e : a = b := beqB_iff.1 (show beqB a b = true from h)
       rw [e])
theorem eqL_eq {f : V → V → Bool} (hf : ∀ a b, f a b = true → a = b) : ∀ {l r : List V}, eqL f l r = true → l = r
  | [], [], _ => rfl
  | a :: l, b :: r, h => by
    simp only [eqL, Bool.and_eq_true] at h
    rw [hf a b h.1, eqL_eq hf h.2]
  | [], _ :: _, h => by cases h
  | _ :: _, [], h => by cases h
theorem eq1_eq {a b : V} (h : eq1 a b = true) : a = b := by
  cases a <;> cases b <;> first
    | exact eq0_eq h
    | (simp only [eq1, Bool.and_eq_true] at h
       rw [Nat.eq_of_beq_eq_true h.1.1, eqL_eq (fun _ _ => eq0_eq) h.1.2, eqL_eq (fun _ _ => eq0_eq) h.2])
theorem eqV_eq {a b : V} (h : eqV a b = true) : a = b := by
  cases a <;> cases b <;> first
    | exact eq1_eq h
    | (simp only [eqV] at h; rw [eqL_eq (fun _ _ => eq1_eq) h])
theorem testBit_lor (a b i : Nat) : (Nat.lor a b).testBit i = (a.testBit i || b.testBit i) := Nat.testBit_or a b i
theorem maskOf_spec {acc : List Nat} {o : Oper} {i : Nat} (h : (maskOf acc o).testBit i = true) : ∃ e ∈ o.after, Region.binds .any e = true ∧ (e.on = i ∨ (acc.getD e.on 0).testBit i = true) := by
  have key : ∀ (l : List Edge) (s : Nat), (l.foldl (fun s e => match Region.binds .any e with | true => Nat.lor (Nat.lor s (2 ^ e.on)) (acc.getD e.on 0) | false => s) s).testBit i = true →
      s.testBit i = true ∨ ∃ e ∈ l, Region.binds .any e = true ∧ (e.on = i ∨ (acc.getD e.on 0).testBit i = true) := by
    intro l
    induction l with
    | nil => intro s h; exact .inl h
    | cons e l ih =>
      intro s h
      rcases ih _ h with h1 | ⟨e', he', h2⟩
      · dsimp only at h1
        cases hb : Region.binds .any e with
        | false => rw [hb] at h1; exact .inl h1
        | true =>
          rw [hb] at h1
          dsimp only at h1
          rw [testBit_lor, testBit_lor, Bool.or_eq_true, Bool.or_eq_true] at h1
          rcases h1 with (h1 | h1) | h1
          · exact .inl h1
          · refine .inr ⟨e, List.mem_cons_self, hb, .inl ?_⟩
            rw [Nat.testBit_two_pow] at h1
            simpa using h1
          · exact .inr ⟨e, List.mem_cons_self, hb, .inr h1⟩
      · exact .inr ⟨e', List.mem_cons_of_mem _ he', h2⟩
  rcases key o.after.toList 0 h with h1 | ⟨e, he, h2⟩
  · simp at h1
  · exact ⟨e, by simpa using he, h2⟩
theorem masks_spec : ∀ (l : List Oper) (acc : List Nat), ∃ r, masks l acc = acc ++ r ∧ ∀ (k : Nat) (o : Oper) (i : Nat), l[k]? = some o → ((masks l acc).getD (acc.length + k) 0).testBit i = true →
    ∃ e ∈ o.after, Region.binds .any e = true ∧ (e.on = i ∨ ((masks l acc).getD e.on 0).testBit i = true) := by
  intro l
  induction l with
  | nil => intro acc; exact ⟨[], by simp [masks], fun k o i h => by simp at h⟩
  | cons o l ih =>
    intro acc
    have hdef : masks (o :: l) acc = masks l (acc ++ [maskOf acc o]) := by simp only [masks, forceN_eq]
    obtain ⟨r, hr, hk⟩ := ih (acc ++ [maskOf acc o])
    refine ⟨maskOf acc o :: r, by rw [hdef, hr]; simp, fun k o' i ho hb => ?_⟩
    rw [hdef] at hb ⊢
    cases k with
    | zero =>
      simp at ho; subst ho
      rw [hr] at hb
      have hv : (acc ++ [maskOf acc o] ++ r).getD (acc.length + 0) 0 = maskOf acc o := by simp [List.getD]
      rw [hv] at hb
      obtain ⟨e, he, h1, h2⟩ := maskOf_spec hb
      refine ⟨e, he, h1, ?_⟩
      rcases h2 with h2 | h2
      · exact .inl h2
      · right
        rw [hr]
        by_cases hlt : e.on < acc.length
        · have : (acc ++ [maskOf acc o] ++ r).getD e.on 0 = acc.getD e.on 0 := by
            simp [List.getD, List.getElem?_append_left hlt]
          rw [this]; exact h2
        · rw [List.getD_eq_getElem?_getD, List.getElem?_eq_none (by omega)] at h2
          simp at h2
    | succ k =>
      have := hk k o' i (by simpa using ho) (by rw [List.length_append]; simpa [Nat.add_assoc, Nat.add_comm 1 k] using hb)
      exact this
end Go.As
/- Regions that draw their order: the order that the machine takes. -/
namespace Go.As
section
variable {P : Program} {ops : Array Oper}
theorem compL_get (P : Program) (ops : Array Oper) : ∀ (l : List Oper) (k : Nat), (compL P ops l)[k]? = (l[k]?).map (compO P ops)
  | [], k => by simp [compL]
  | o :: l, 0 => by simp [compL]
  | o :: l, k + 1 => by simp [compL, compL_get P ops l k]
theorem number_mem : ∀ (l : List Oper) (r : List CO) (i : Nat) (x : En), x ∈ number i l r → ∃ k, x.1 = i + k ∧ l[k]? = some x.2.1 ∧ r[k]? = some x.2.2
  | [], _, _, _, h => by simp [number] at h
  | _ :: _, [], _, _, h => by simp [number] at h
  | o :: l, c :: r, i, x, h => by
    simp only [number, List.mem_cons] at h
    rcases h with rfl | h
    · exact ⟨0, rfl, rfl, rfl⟩
    · obtain ⟨k, h1, h2, h3⟩ := number_mem l r (i + 1) x h
      exact ⟨k + 1, by omega, by simpa using h2, by simpa using h3⟩
theorem number_has : ∀ (l : List Oper) (r : List CO) (i k : Nat), k < l.length → l.length = r.length → ∃ x ∈ number i l r, x.1 = i + k
  | [], _, _, _, h, _ => by simp at h
  | _ :: _, [], _, _, _, h => by simp at h
  | o :: l, c :: r, i, 0, _, _ => ⟨(i, o, c), by simp [number], rfl⟩
  | o :: l, c :: r, i, k + 1, h, hl => by
    obtain ⟨x, hx, hk⟩ := number_has l r (i + 1) k (by simpa using h) (by simpa using hl)
    exact ⟨x, by simp [number, hx], by omega⟩
theorem pickOne_mem {loud : Bool} {done : Nat} : ∀ {l : List En} {x : En}, pickOne loud done l = some x → x ∈ l
  | [], _, h => by cases h
  | y :: l, x, h => by
    simp only [pickOne] at h
    split at h
    · cases h; exact List.mem_cons_self
    · exact List.mem_cons_of_mem _ (pickOne_mem h)
theorem order_mem {all : List En} : ∀ {f done : Nat} {x : En}, x ∈ order all f done → x ∈ all
  | 0, _, _, h => by simp [order] at h
  | f + 1, done, x, h => by
    simp only [order, forceN_eq] at h
    split at h
    · rename_i y hy
      rcases List.mem_cons.1 h with rfl | h
      · exact pickOne_mem hy
      · exact order_mem h
    · split at h
      · rename_i y hy
        rcases List.mem_cons.1 h with rfl | h
        · exact pickOne_mem hy
        · exact order_mem h
      · cases h
def PairOk (bs : List Nat) (x y : En) : Prop := x.1 ≠ y.1 ∧ (tied x.2.1 y.2.1 x.2.2 y.2.2 = true → (bs.getD y.1 0).testBit x.1 = true)
theorem pairsOk_spec {bs : List Nat} {j : Nat} {b : Oper} {cb : CO} : ∀ {l : List En}, pairsOk bs j b cb l = true → ∀ x ∈ l, PairOk bs x (j, b, cb)
  | [], _, x, hx => by cases hx
  | (i, a, ca) :: l, h, x, hx => by
    simp only [pairsOk, Bool.and_eq_true] at h
    rcases List.mem_cons.1 hx with rfl | hx
    · refine ⟨fun he => ?_, fun ht => ?_⟩
      · have h1 := h.1.1
        dsimp only at he
        subst he
        rw [Nat.beq_refl] at h1; cases h1
      · have h2 := h.1.2
        dsimp only at ht
        rw [ht] at h2; simpa using h2
    · exact pairsOk_spec h.2 x hx
theorem orderOk_spec {bs : List Nat} : ∀ {l before : List En}, orderOk bs before l = true → (∀ x ∈ before, ∀ y ∈ l, PairOk bs x y) ∧ l.Pairwise (PairOk bs)
  | [], _, _ => ⟨fun _ _ _ h => by (cases h), .nil⟩
  | y :: l, before, h => by
    simp only [orderOk, Bool.and_eq_true] at h
    have h1 := pairsOk_spec h.1
    obtain ⟨h2, h3⟩ := orderOk_spec h.2
    refine ⟨fun x hx z hz => ?_, ?_⟩
    · rcases List.mem_cons.1 hz with rfl | hz
      · exact h1 x hx
      · exact h2 x (List.mem_append_left _ hx) z hz
    · exact List.Pairwise.cons (fun z hz => h2 y (List.mem_append_right _ List.mem_cons_self) z hz) h3
theorem edgesOk_spec : ∀ {l : List En}, edgesOk l = true → ∀ x ∈ l, ∀ e ∈ x.2.1.after, Region.binds .any e = true → e.on < x.1
  | [], _, x, hx => by cases hx
  | (j, b, c) :: l, h, x, hx => by
    simp only [edgesOk, Bool.and_eq_true] at h
    rcases List.mem_cons.1 hx with rfl | hx
    · intro e he hb
      have := List.all_eq_true.1 h.1 e (by simpa using he)
      rw [hb] at this
      simpa using this
    · exact edgesOk_spec h.2 x hx
theorem hasNo_spec {i : Nat} : ∀ {l : List En}, hasNo i l = true → ∃ x ∈ l, x.1 = i
  | [], h => by cases h
  | x :: l, h => by
    simp only [hasNo, Bool.or_eq_true] at h
    rcases h with h | h
    · exact ⟨x, List.mem_cons_self, Nat.eq_of_beq_eq_true h⟩
    · obtain ⟨y, hy, he⟩ := hasNo_spec h; exact ⟨y, List.mem_cons_of_mem _ hy, he⟩
theorem covers_spec {ord : List En} : ∀ {l : List En}, covers ord l = true → ∀ x ∈ l, ∃ y ∈ ord, y.1 = x.1
  | [], _, x, hx => by cases hx
  | z :: l, h, x, hx => by
    simp only [covers, Bool.and_eq_true] at h
    rcases List.mem_cons.1 hx with rfl | hx
    · exact hasNo_spec h.1
    · exact covers_spec h.2 x hx
structure Ahead (x y : Dn) : Prop where
  ne : x.1 ≠ y.1
  wr : ∀ d, x.2.2.2.d = some d → d ∈ y.2.2.1 ∨ y.2.2.2.d = some d → y.2.1.testBit x.1 = true
  rd : ∀ d, y.2.2.2.d = some d → d ∈ x.2.2.1 → y.2.1.testBit x.1 = true
  loud : x.2.2.2.a.cls = .l → y.2.2.2.a.cls = .l ∨ y.2.2.2.a.cls = .m → y.2.1.testBit x.1 = true
structure Drawn (P : Program) (ops : Array Oper) (B : Nat → Nat) (l : List Dn) : Prop where
  mem : ∀ x ∈ l, ∃ o, ops[x.1]? = some o ∧ x.2.2.2 = compO P ops o ∧ x.2.2.1 = looks o (compO P ops o) ∧ x.2.1 = B x.1
  all : ∀ i, i < ops.size → ∃ x ∈ l, x.1 = i
  pairs : l.Pairwise Ahead
  edges : ∀ (j : Nat) (o : Oper), ops[j]? = some o → ∀ e ∈ o.after, Region.binds .any e = true → e.on < j
  before : ∀ (j : Nat) (o : Oper) (i : Nat), ops[j]? = some o → (B j).testBit i = true → ∃ e ∈ o.after, Region.binds .any e = true ∧ (e.on = i ∨ (B e.on).testBit i = true)
theorem dress_mem {bs : List Nat} : ∀ {l : List En} {x : Dn}, x ∈ dress bs l → ∃ y ∈ l, x = (y.1, bs.getD y.1 0, looks y.2.1 y.2.2, y.2.2)
  | [], _, h => by cases h
  | (j, o, c) :: l, x, h => by
    simp only [dress, forceN_eq, List.mem_cons] at h
    rcases h with rfl | h
    · exact ⟨(j, o, c), List.mem_cons_self, rfl⟩
    · obtain ⟨y, hy, he⟩ := dress_mem h; exact ⟨y, List.mem_cons_of_mem _ hy, he⟩
theorem dress_has {bs : List Nat} : ∀ {l : List En} {y : En}, y ∈ l → (y.1, bs.getD y.1 0, looks y.2.1 y.2.2, y.2.2) ∈ dress bs l
  | [], _, h => by cases h
  | (j, o, c) :: l, y, h => by
    simp only [dress, forceN_eq, List.mem_cons]
    rcases List.mem_cons.1 h with rfl | h
    · exact .inl rfl
    · exact .inr (dress_has h)
theorem ahead_of_pair {bs : List Nat} {x y : En} (h : PairOk bs x y) : Ahead (x.1, bs.getD x.1 0, looks x.2.1 x.2.2, x.2.2) (y.1, bs.getD y.1 0, looks y.2.1 y.2.2, y.2.2) := by
  obtain ⟨h1, h2⟩ := h
  refine ⟨h1, fun d hd hy => h2 ?_, fun d hd hx => h2 ?_, fun hx hy => h2 ?_⟩
  · dsimp only at hd hy
    unfold tied
    rw [hd]
    dsimp only
    rcases hy with hy | hy
    · simp [hy]
    · simp [hy]
  · dsimp only at hd hx
    unfold tied
    rw [hd]
    dsimp only
    simp [hx]
  · dsimp only at hx hy
    unfold tied
    rw [hx]
    rcases hy with hy | hy <;> rw [hy] <;> simp
theorem dress_pairs {bs : List Nat} : ∀ {l : List En}, l.Pairwise (PairOk bs) → (dress bs l).Pairwise Ahead
  | [], _ => .nil
  | (j, o, c) :: l, h => by
    simp only [dress, forceN_eq]
    rw [List.pairwise_cons] at h
    refine List.Pairwise.cons (fun z hz => ?_) (dress_pairs h.2)
    obtain ⟨y, hy, rfl⟩ := dress_mem hz
    exact ahead_of_pair (h.1 y hy)
theorem compD_spec {l : List Dn} (h : compD P ops = some l) : ∃ B, Drawn P ops B l := by
  unfold compD at h
  dsimp only at h
  split at h
  · rename_i hok
    cases h
    simp only [Bool.and_eq_true] at hok
    obtain ⟨⟨hed, hord⟩, hcov⟩ := hok
    have hmem : ∀ x ∈ number 0 ops.toList (compL P ops ops.toList), ops[x.1]? = some x.2.1 ∧ x.2.2 = compO P ops x.2.1 := by
      intro x hx
      obtain ⟨k, h1, h2, h3⟩ := number_mem _ _ _ _ hx
      rw [Nat.zero_add] at h1
      rw [compL_get, h2] at h3
      refine ⟨by rw [h1]; simpa using h2, ?_⟩
      simpa using h3.symm
    refine ⟨fun j => (masks ops.toList []).getD j 0, fun x hx => ?_, fun i hi => ?_, dress_pairs (orderOk_spec hord).2, fun j o ho => ?_, fun j o i ho hb => ?_⟩
    · obtain ⟨y, hy, rfl⟩ := dress_mem hx
      obtain ⟨h1, h2⟩ := hmem y (order_mem hy)
      exact ⟨y.2.1, h1, h2, by dsimp only; rw [h2], rfl⟩
    · have hlen : ops.toList.length = (compL P ops ops.toList).length := by
        have key : ∀ l : List Oper, (compL P ops l).length = l.length := fun l => by induction l <;> simp_all [compL]
        rw [key]
      obtain ⟨x, hx, hxi⟩ := number_has ops.toList _ 0 i (by simpa using hi) hlen
      obtain ⟨y, hy, he⟩ := covers_spec hcov x hx
      exact ⟨_, dress_has hy, by dsimp only; omega⟩
    · have hlen : ops.toList.length = (compL P ops ops.toList).length := by
        have key : ∀ l : List Oper, (compL P ops l).length = l.length := fun l => by induction l <;> simp_all [compL]
        rw [key]
      have hj : j < ops.size := (Array.getElem?_eq_some_iff.1 ho).1
      obtain ⟨x, hx, hxi⟩ := number_has ops.toList _ 0 j (by simpa using hj) hlen
      rw [Nat.zero_add] at hxi
      have hxo := (hmem x hx).1
      rw [hxi, ho] at hxo
      cases hxo
      have := edgesOk_spec hed x hx
      rw [hxi] at this
      exact this
    · obtain ⟨r, _, hm⟩ := masks_spec ops.toList []
      exact hm j o i (by simpa using ho) (by simpa using hb)
  · cases h
end
end Go.As
/- Regions that draw their order: the machine's way, and where it stands when some operations are done. -/
namespace Go.As
deriving instance DecidableEq for Cls
section
variable {P : Program} {ops : Array Oper} {self : Rq → Option Rs} {Sf : (Rq → Option Rs) → Prop}
noncomputable def after (t : Tr V) (d : Option Nat) (v : V) : Tr V := match d with | some d => t.set d v | none => t
inductive Way (Sf : (Rq → Option Rs) → Prop) (nt : Nat) (marks : List Nat) : Tr V → H → List Tn → Tr V → H → Prop
  | nil (t : Tr V) (h : H) : Way Sf nt marks t h [] t h
  | cons {self : Rq → Option Rs} {t : Tr V} {h : H} {x : Dn} {v : V} {s1 : St} {l : List Tn} {t2 : Tr V} {h2 : H} (hs : Sf self) (hd : doOp self x.2.2.2 ⟨only t x.2.2.1, nt, marks, h⟩ = some (v, s1)) (hn : h.n ≤ s1.h.n) (hw : Way Sf nt marks (after t x.2.2.2.d v) s1.h l t2 h2) :
      Way Sf nt marks t h ((x, ⟨only t x.2.2.1, nt, marks, h⟩, v) :: l) t2 h2
theorem Way.split {nt : Nat} {marks : List Nat} : ∀ {pre : List Tn} {t : Tr V} {h : H} {e : Tn} {post : List Tn} {t2 : Tr V} {h2 : H}, Way Sf nt marks t h (pre ++ e :: post) t2 h2 →
    ∃ (te : Tr V) (s1 : St) (self : Rq → Option Rs), Sf self ∧ Way Sf nt marks t h pre te e.2.1.h ∧ e.2.1 = ⟨only te e.1.2.2.1, nt, marks, e.2.1.h⟩ ∧ doOp self e.1.2.2.2 e.2.1 = some (e.2.2, s1) ∧ Way Sf nt marks (after te e.1.2.2.2.d e.2.2) s1.h post t2 h2 ∧ e.2.1.h.n ≤ s1.h.n := by
  intro pre
  induction pre with
  | nil =>
    intro t h e post t2 h2 hw
    cases hw with
    | cons hs hd hn hw => exact ⟨t, _, _, hs, .nil _ _, rfl, hd, hw, hn⟩
  | cons p pre ih =>
    intro t h e post t2 h2 hw
    cases hw with
    | cons hs hd hn hw =>
      obtain ⟨te, s1, self, h0, h1, h2, h3, h4⟩ := ih hw
      exact ⟨te, s1, self, h0, .cons hs hd hn h1, h2, h3, h4⟩
def curT (S : Nat → Bool) : List Tn → (Nat → Option V) → Nat → Option V
  | [], f => f
  | (x, _, v) :: l, f => curT S l fun d => if S x.1 = true ∧ x.2.2.2.d = some d then some v else f d
theorem curT_append (S : Nat → Bool) : ∀ (l r : List Tn) (f : Nat → Option V), curT S (l ++ r) f = curT S r (curT S l f)
  | [], _, _ => rfl
  | (x, s, v) :: l, r, f => curT_append S l r _
theorem curT_at (S : Nat → Bool) : ∀ (l : List Tn) {f g : Nat → Option V} {d : Nat}, f d = g d → curT S l f d = curT S l g d
  | [], _, _, _, h => h
  | (x, s, v) :: l, f, g, d, h => curT_at S l (by rw [h])
theorem curT_none {S : Nat → Bool} {d : Nat} : ∀ {l : List Tn} {f : Nat → Option V}, (∀ e ∈ l, e.1.2.2.2.d = some d → S e.1.1 = false) → curT S l f d = f d
  | [], _, _ => rfl
  | (x, s, v) :: l, f, h => by
    show curT S l _ d = f d
    rw [curT_none (l := l) (fun e he => h e (List.mem_cons_of_mem _ he)), if_neg]
    rintro ⟨h1, h2⟩
    have := h _ List.mem_cons_self h2
    rw [h1] at this; cases this
theorem curT_all {S : Nat → Bool} {nt : Nat} {marks : List Nat} {d : Nat} : ∀ {l : List Tn} {t : Tr V} {h : H} {t2 : Tr V} {h2 : H} {f : Nat → Option V}, Way Sf nt marks t h l t2 h2 → (∀ e ∈ l, e.1.2.2.2.d = some d → S e.1.1 = true) → f d = t.get d →
    curT S l f d = t2.get d := by
  intro l
  induction l with
  | nil => intro t h t2 h2 f hw _ hf; cases hw; exact hf
  | cons e l ih =>
    intro t h t2 h2 f hw hall hf
    cases hw with
    | cons hs hd hn hw =>
      rename_i x v s1
      refine ih hw (fun e he => hall e (List.mem_cons_of_mem _ he)) ?_
      by_cases hx : x.2.2.2.d = some d
      · have hS := hall _ List.mem_cons_self hx
        dsimp only at hS
        rw [if_pos ⟨hS, hx⟩]
        unfold after
        rw [hx]
        dsimp only
        rw [Tr.get_set_same]
      · rw [if_neg (fun h => hx h.2), hf]
        unfold after
        cases hd' : x.2.2.2.d with
        | none => rfl
        | some d' =>
          dsimp only
          rw [Tr.get_set_ne]
          intro he; subst he; exact hx hd'
def plus (S : Nat → Bool) (i : Nat) : Nat → Bool := fun j => if j = i then true else S j
theorem curT_same {S S' : Nat → Bool} : ∀ {l : List Tn} {f : Nat → Option V}, (∀ e ∈ l, S e.1.1 = S' e.1.1) → curT S l f = curT S' l f
  | [], _, _ => rfl
  | (x, s, v) :: l, f, h => by
    show curT S l _ = curT S' l _
    rw [curT_same (fun e he => h e (List.mem_cons_of_mem _ he))]
    have := h _ List.mem_cons_self
    dsimp only at this
    rw [this]
theorem curT_plus {S : Nat → Bool} {pre post : List Tn} {e : Tn} {f : Nat → Option V} (hpre : ∀ x ∈ pre, x.1.1 ≠ e.1.1) (hpost : ∀ x ∈ post, x.1.1 ≠ e.1.1) (hS : S e.1.1 = false)
    (hno : ∀ d, e.1.2.2.2.d = some d → ∀ x ∈ post, x.1.2.2.2.d = some d → S x.1.1 = false) (d : Nat) :
    curT (plus S e.1.1) (pre ++ e :: post) f d = if e.1.2.2.2.d = some d then some e.2.2 else curT S (pre ++ e :: post) f d := by
  have e1 : ∀ x ∈ pre, plus S e.1.1 x.1.1 = S x.1.1 := fun x hx => by unfold plus; rw [if_neg (hpre x hx)]
  have e2 : ∀ x ∈ post, plus S e.1.1 x.1.1 = S x.1.1 := fun x hx => by unfold plus; rw [if_neg (hpost x hx)]
  rw [curT_append, curT_append, curT_same e1]
  obtain ⟨x, s, v⟩ := e
  show curT (plus S x.1) post (fun d => if plus S x.1 x.1 = true ∧ x.2.2.2.d = some d then some v else curT S pre f d) d = _
  rw [curT_same e2]
  have hp : plus S x.1 x.1 = true := by unfold plus; rw [if_pos rfl]
  by_cases hd : x.2.2.2.d = some d
  · rw [if_pos hd, curT_none (fun z hz hzd => hno d hd z hz hzd), if_pos ⟨hp, hd⟩]
  · rw [if_neg hd]
    refine curT_at S post ?_
    rw [if_neg (fun h => hd h.2), if_neg (fun h => hd h.2)]
def curH (S : Nat → Bool) : List Tn → H → H
  | [], hend => hend
  | (x, s, _) :: l, hend => if x.2.2.2.a.cls = .l ∧ S x.1 = false then s.h else curH S l hend
theorem curH_at {S : Nat → Bool} {e : Tn} {post : List Tn} {hend : H} (he : e.1.2.2.2.a.cls = .l) (hS : S e.1.1 = false) : ∀ {pre : List Tn}, (∀ x ∈ pre, x.1.2.2.2.a.cls = .l → S x.1.1 = true) → curH S (pre ++ e :: post) hend = e.2.1.h
  | [], _ => by
    obtain ⟨x, s, v⟩ := e
    exact if_pos ⟨he, hS⟩
  | (x, s, v) :: pre, h => by
    show (if x.2.2.2.a.cls = .l ∧ S x.1 = false then s.h else curH S (pre ++ e :: post) hend) = _
    rw [if_neg (fun hc => by have := h _ List.mem_cons_self hc.1; rw [hc.2] at this; cases this)]
    exact curH_at he hS (fun z hz => h z (List.mem_cons_of_mem _ hz))
theorem curH_past {S : Nat → Bool} {l : List Tn} {hend : H} : ∀ {pre : List Tn}, (∀ x ∈ pre, x.1.2.2.2.a.cls = .l → S x.1.1 = true) → curH S (pre ++ l) hend = curH S l hend
  | [], _ => rfl
  | (x, s, v) :: pre, h => by
    show (if x.2.2.2.a.cls = .l ∧ S x.1 = false then s.h else curH S (pre ++ l) hend) = _
    rw [if_neg (fun hc => by have := h _ List.mem_cons_self hc.1; rw [hc.2] at this; cases this)]
    exact curH_past (fun z hz => h z (List.mem_cons_of_mem _ hz))
theorem curH_same {S S' : Nat → Bool} {hend : H} : ∀ {l : List Tn}, (∀ e ∈ l, e.1.2.2.2.a.cls = .l → S e.1.1 = S' e.1.1) → curH S l hend = curH S' l hend
  | [], _ => rfl
  | (x, s, v) :: l, h => by
    show (if x.2.2.2.a.cls = .l ∧ S x.1 = false then s.h else curH S l hend) = (if x.2.2.2.a.cls = .l ∧ S' x.1 = false then s.h else curH S' l hend)
    rw [curH_same (fun e he => h e (List.mem_cons_of_mem _ he))]
    by_cases hl : x.2.2.2.a.cls = .l
    · have := h _ List.mem_cons_self hl
      dsimp only at this
      rw [this]
    · rw [if_neg (fun h => hl h.1), if_neg (fun h => hl h.1)]
def StillP (f : H → Option V) (v : V) (i b : Nat) (hend : H) : List Tn → Prop
  | [] => f hend = some v
  | ((j, bj, _, c), s, _) :: l => (match c.a.cls.isL with
    | true => (b.testBit j = true ∨ f s.h = some v) ∧ (bj.testBit i = true ∨ StillP f v i b hend l)
    | false => StillP f v i b hend l)
theorem still_spec {f : H → Option V} {v : V} {i b : Nat} {hend : H} {S : Nat → Bool} (hb : ∀ j, b.testBit j = true → S j = true) (hi : S i = false) : ∀ {l : List Tn}, StillP f v i b hend l → (∀ e ∈ l, S e.1.1 = true → ∀ j, e.1.2.1.testBit j = true → S j = true) → f (curH S l hend) = some v
  | [], h, _ => h
  | ((j, bj, lk, c), s, u) :: l, h, hcl => by
    have h' : (match c.a.cls.isL with
      | true => (b.testBit j = true ∨ f s.h = some v) ∧ (bj.testBit i = true ∨ StillP f v i b hend l)
      | false => StillP f v i b hend l) := h
    show f (if c.a.cls = .l ∧ S j = false then s.h else curH S l hend) = some v
    have hrest : ∀ e ∈ l, S e.1.1 = true → ∀ j, e.1.2.1.testBit j = true → S j = true := fun e he => hcl e (List.mem_cons_of_mem _ he)
    cases hc : c.a.cls with
    | l =>
      rw [hc] at h'
      dsimp only [Cls.isL] at h'
      cases hS : S j with
      | false =>
        rw [if_pos ⟨rfl, rfl⟩]
        rcases h'.1 with h1 | h1
        · have := hb j h1; rw [hS] at this; cases this
        · exact h1
      | true =>
        rw [if_neg (fun h => by cases h.2)]
        rcases h'.2 with h1 | h1
        · have := hcl _ List.mem_cons_self hS i h1; rw [hi] at this; cases this
        · exact still_spec hb hi h1 hrest
    | q => rw [hc] at h'; rw [if_neg (fun h => by cases h.1)]; exact still_spec hb hi h' hrest
    | r => rw [hc] at h'; rw [if_neg (fun h => by cases h.1)]; exact still_spec hb hi h' hrest
    | m => rw [hc] at h'; rw [if_neg (fun h => by cases h.1)]; exact still_spec hb hi h' hrest
end
end Go.As
/- Regions that draw their order: new blocks, late. -/
namespace Go.As
section
variable {base : Nat} {m0 m : M} {h0 h : H} {w0 w : World}
theorem SR.late (a : SR base m0 h0 w0 m h w) (hB : base ≤ w.heap.size) {n : Nat} {b : Blk} {o : Obj} {e : Nat} (hb : h.get n = some b) (hm : m n = none) (hn : h0.n ≤ n)
    (hbr : BR (m.set n (w.heap.size, 0, e)) (0, e) (some o) b) : SR base m0 h0 w0 (m.set n (w.heap.size, 0, e)) h (w.alloc o) where
  ext := a.ext.trans (.set _ hm)
  new := fun i p hp hi => by
    by_cases he : i = n
    · subst he; exact ⟨hn, a.hr.lt _ _ hb⟩
    · rw [M.set_ne _ _ he] at hp; exact a.new i p hp hi
  hr := {
    blk := fun i bi r s hi hmi => by
      by_cases he : i = n
      · subst he
        rw [hb] at hi; cases hi
        rw [M.set_same] at hmi; cases hmi
        have : (w.alloc o).heap[w.heap.size]? = some o := by
          show (w.heap.push o)[w.heap.size]? = some o
          rw [Array.getElem?_push, if_pos rfl]
        rw [this]; exact hbr
      · rw [M.set_ne _ _ he] at hmi
        have hlt := a.hr.rng i r s hmi
        have : (w.alloc o).heap[r]? = w.heap[r]? := by
          show (w.heap.push o)[r]? = _
          rw [Array.getElem?_push, if_neg (by omega)]
        rw [this]
        exact (a.hr.blk i bi r s hi hmi).mono (.set _ hm)
    inj := fun i j bi bj r s s' hi hj hwi hlj hmi hmj => by
      by_cases hei : i = n
      · by_cases hej : j = n
        · rw [hei, hej]
        · subst hei
          rw [M.set_same] at hmi; cases hmi
          rw [M.set_ne _ _ hej] at hmj
          have := a.hr.rng j _ _ hmj; omega
      · rw [M.set_ne _ _ hei] at hmi
        by_cases hej : j = n
        · subst hej
          rw [M.set_same] at hmj; cases hmj
          have := a.hr.rng i _ _ hmi; omega
        · rw [M.set_ne _ _ hej] at hmj
          exact a.hr.inj i j bi bj _ _ _ hi hj hwi hlj hmi hmj
    own := fun i bi r s hi hwi hmi => by
      by_cases he : i = n
      · subst he; rw [M.set_same] at hmi; cases hmi; exact hB
      · rw [M.set_ne _ _ he] at hmi; exact a.hr.own i bi r s hi hwi hmi
    rng := fun i r s hmi => by
      rw [World.size_alloc]
      by_cases he : i = n
      · subst he; rw [M.set_same] at hmi; cases hmi; omega
      · rw [M.set_ne _ _ he] at hmi; have := a.hr.rng i r s hmi; omega
    lt := a.hr.lt
    dom := fun i hi => by
      have := a.hr.lt _ _ hb
      rw [M.set_ne _ _ (by omega)]; exact a.hr.dom i hi
    frz := fun r p hp => by
      have he := a.hr.frz r p hp
      have hlt := he.lt
      show FzO p ((w.heap.push o)[r]?)
      rw [Array.getElem?_push, if_neg (by omega)]; exact he
    nfz := fun i bi r s hi hwi hmi => by
      by_cases he : i = n
      · subst he
        rw [M.set_same] at hmi; cases hmi
        cases hf : m.fz w.heap.size with
        | none => exact hf
        | some p =>
          have hlt := (a.hr.frz _ p hf).lt
          omega
      · rw [M.set_ne _ _ he] at hmi; exact a.hr.nfz i bi r s hi hwi hmi }
  n := a.n
  os := a.os
  tape := a.tape
  output := a.output
  size := by rw [World.size_alloc]; have := a.size; omega
  frame := fun r hr' hno => by
    have := a.size
    show (w.heap.push o)[r]? = _
    rw [Array.getElem?_push, if_neg (by omega)]
    exact a.frame r hr' hno
  fresh := fun i bi r s hi hwi hmi => by
    by_cases he : i = n
    · subst he; rw [M.set_same] at hmi; cases hmi; exact .inl a.size
    · rw [M.set_ne _ _ he] at hmi; exact a.fresh i bi r s hi hwi hmi
  low := a.low
  lowle := a.lowle
  fzn := a.fzn
  keep := a.keep
theorem SR.wide (a : SR base m0 h0 w0 m h w) (b : Blk) : SR base m0 h0 w0 m (h.new b) w where
  ext := a.ext
  new := fun i p hp hi => by have := a.new i p hp hi; rw [H.n_new]; omega
  hr := {
    blk := fun i bi r s hi hmi => by
      rw [H.get_new] at hi
      by_cases he : i = h.n
      · subst he; rw [a.hr.dom _ (Nat.le_refl _)] at hmi; cases hmi
      · rw [if_neg he] at hi; exact a.hr.blk i bi r s hi hmi
    inj := fun i j bi bj r s s' hi hj hwi hlj hmi hmj => by
      rw [H.get_new] at hi hj
      by_cases hei : i = h.n
      · subst hei; rw [a.hr.dom _ (Nat.le_refl _)] at hmi; cases hmi
      · by_cases hej : j = h.n
        · subst hej; rw [a.hr.dom _ (Nat.le_refl _)] at hmj; cases hmj
        · rw [if_neg hei] at hi; rw [if_neg hej] at hj
          exact a.hr.inj i j bi bj _ _ _ hi hj hwi hlj hmi hmj
    own := fun i bi r s hi hwi hmi => by
      rw [H.get_new] at hi
      by_cases he : i = h.n
      · subst he; rw [a.hr.dom _ (Nat.le_refl _)] at hmi; cases hmi
      · rw [if_neg he] at hi; exact a.hr.own i bi r s hi hwi hmi
    rng := a.hr.rng
    lt := fun i bi hi => by
      rw [H.get_new] at hi
      rw [H.n_new]
      by_cases he : i = h.n
      · omega
      · rw [if_neg he] at hi; have := a.hr.lt i bi hi; omega
    dom := fun i hi => by rw [H.n_new] at hi; exact a.hr.dom i (by omega)
    frz := a.hr.frz
    nfz := fun i bi r s hi hwi hmi => by
      rw [H.get_new] at hi
      by_cases he : i = h.n
      · subst he; rw [a.hr.dom _ (Nat.le_refl _)] at hmi; cases hmi
      · rw [if_neg he] at hi; exact a.hr.nfz i bi r s hi hwi hmi }
  n := by rw [H.n_new]; have := a.n; omega
  os := a.os
  tape := a.tape
  output := a.output
  size := a.size
  frame := a.frame
  fresh := fun i bi r s hi hwi hmi => by
    rw [H.get_new] at hi
    by_cases he : i = h.n
    · subst he; rw [a.hr.dom _ (Nat.le_refl _)] at hmi; cases hmi
    · rw [if_neg he] at hi; exact a.fresh i bi r s hi hwi hmi
  low := fun i hi hl => by have := a.n; rw [H.get_new, if_neg (by omega)]; exact a.low i hi hl
  lowle := a.lowle
  fzn := a.fzn
  keep := fun i hi hmi => by have := a.n; rw [H.get_new, if_neg (by omega)]; exact a.keep i hi hmi
end
section
variable {base : Nat} {self : Rq → Option Rs} {Sf : (Rq → Option Rs) → Prop}
def Made (e : Tn) (b : Blk) : Prop := ∃ f g, e.1.2.2.2.a = .m f ∧ wanted e.2.1.t e.1.2.2.2.g = some true ∧ f e.2.1.t = some (b, g)
theorem put_h {t : Tr V} {nt : Nat} {marks : List Nat} {h : H} {d : Option Nat} {v v' : V} {s' : St} (hp : put t nt marks h d v = some (v', s')) : s'.h = h ∧ v' = v := by
  rw [put_eq] at hp
  cases d with
  | none => cases hp; exact ⟨rfl, rfl⟩
  | some d =>
    dsimp only at hp
    split at hp
    · cases hp; exact ⟨rfl, rfl⟩
    · cases hp
theorem calm_step {c : CO} {t : Tr V} {nt : Nat} {marks : List Nat} {h : H} {v : V} {s1 : St} (hd : doOp self c ⟨t, nt, marks, h⟩ = some (v, s1)) (hc : c.a.cls ≠ .l) (x : Dn) (hx : x.2.2.2 = c) :
    (∃ b, Made (x, ⟨t, nt, marks, h⟩, v) b ∧ s1.h = h.new b) ∨ ((∀ b, ¬ Made (x, ⟨t, nt, marks, h⟩, v) b) ∧ s1.h = h) := by
  obtain ⟨g, d, a⟩ := c
  have hd' : (match wanted t g with
    | some true => act self a d ⟨t, nt, marks, h⟩
    | some false => put t nt marks h d (.tup [])
    | none => none) = some (v, s1) := hd
  cases hw : wanted t g with
  | none => rw [hw] at hd'; cases hd'
  | some b =>
    rw [hw] at hd'
    cases b with
    | false =>
      dsimp only at hd'
      refine .inr ⟨fun b ⟨f, g', h1, h2, h3⟩ => ?_, (put_h hd').1⟩
      dsimp only at h2
      rw [hx] at h2
      rw [hw] at h2; cases h2
    | true =>
      dsimp only at hd'
      cases a with
      | q f =>
        right
        refine ⟨fun b ⟨f', g', h1, _⟩ => (by dsimp only at h1; rw [hx] at h1; cases h1), ?_⟩
        simp only [act] at hd'
        cases hf : f t with
        | none => rw [hf] at hd'; cases hd'
        | some u => rw [hf] at hd'; exact (put_h hd').1
      | r f =>
        right
        refine ⟨fun b ⟨f', g', h1, _⟩ => (by dsimp only at h1; rw [hx] at h1; cases h1), ?_⟩
        simp only [act] at hd'
        cases hf : f h t with
        | none => rw [hf] at hd'; cases hd'
        | some u => rw [hf] at hd'; exact (put_h hd').1
      | m f =>
        left
        simp only [act] at hd'
        cases hf : f t with
        | none => rw [hf] at hd'; cases hd'
        | some bg =>
          obtain ⟨b, g'⟩ := bg
          rw [hf] at hd'
          dsimp only at hd'
          rw [forceH_eq] at hd'
          exact ⟨b, ⟨f, g', by rw [hx], by dsimp only; rw [hx]; exact hw, hf⟩, (put_h hd').1⟩
      | w f => exact absurd rfl hc
      | c f as => exact absurd rfl hc
      | bad => exact absurd rfl hc
def Kp (S : Nat → Bool) (m : M) (hc : H) : List Tn → Prop
  | [] => True
  | e :: l => (e.1.2.2.2.a.cls = .l ∧ S e.1.1 = false) ∨ ((∀ b, S e.1.1 = false → Made e b → m e.2.1.h.n = none ∧ hc.get e.2.1.h.n = some b) ∧ Kp S m hc l)
theorem seg_sound {S : Nat → Bool} {m0 m : M} {h0 : H} {w0 w : World} {nt : Nat} {marks : List Nat} : ∀ {l : List Tn} {t : Tr V} {h : H} {t2 : Tr V} {h2 : H}, Way Sf nt marks t h l t2 h2 → (∀ e ∈ l, e.1.2.2.2.a.cls = .l → S e.1.1 = false) → SR base m0 h0 w0 m h w →
    SR base m0 h0 w0 m (curH S l h2) w ∧ (∀ j, j < h.n → (curH S l h2).get j = h.get j) ∧ Kp S m (curH S l h2) l := by
  intro l
  induction l with
  | nil => intro t h t2 h2 hw _ hs; cases hw; exact ⟨hs, fun _ _ => rfl, trivial⟩
  | cons e l ih =>
    intro t h t2 h2 hw hS hs
    cases hw with
    | cons hself hd hn hw =>
      rename_i x v s1
      by_cases hl : x.2.2.2.a.cls = .l
      · have hSx := hS _ List.mem_cons_self hl
        have : curH S ((x, ⟨only t x.2.2.1, nt, marks, h⟩, v) :: l) h2 = h := if_pos ⟨hl, hSx⟩
        rw [this]
        exact ⟨hs, fun _ _ => rfl, .inl ⟨hl, hSx⟩⟩
      · have : curH S ((x, ⟨only t x.2.2.1, nt, marks, h⟩, v) :: l) h2 = curH S l h2 := if_neg (fun h => hl h.1)
        rw [this]
        have hS' : ∀ e ∈ l, e.1.2.2.2.a.cls = .l → S e.1.1 = false := fun e he => hS e (List.mem_cons_of_mem _ he)
        rcases calm_step hd hl x rfl with ⟨b, hb, he⟩ | ⟨hno, he⟩
        · rw [he] at hw
          obtain ⟨g1, g2, g3⟩ := ih hw hS' (hs.wide b)
          refine ⟨g1, fun j hj => ?_, .inr ⟨fun b' _ hb' => ⟨hs.hr.dom _ (Nat.le_refl _), ?_⟩, g3⟩⟩
          · rw [g2 j (by rw [H.n_new]; omega), H.get_new, if_neg (by omega)]
          · show (curH S l h2).get h.n = some b'
            rw [g2 h.n (by rw [H.n_new]; omega), H.get_new, if_pos rfl]
            obtain ⟨f, g, e1, _, e3⟩ := hb
            obtain ⟨f', g', e1', _, e3'⟩ := hb'
            rw [e1] at e1'; cases e1'
            rw [e3] at e3'; cases e3'; rfl
        · rw [he] at hw
          obtain ⟨g1, g2, g3⟩ := ih hw hS' hs
          exact ⟨g1, g2, .inr ⟨fun b' _ hb' => absurd hb' (hno b'), g3⟩⟩
theorem Kp.at {S : Nat → Bool} {m : M} {hc : H} {e : Tn} {post : List Tn} (he : e.1.2.2.2.a.cls ≠ .l) (hS : S e.1.1 = false) : ∀ {pre : List Tn}, Kp S m hc (pre ++ e :: post) → (∀ x ∈ pre, x.1.2.2.2.a.cls = .l → S x.1.1 = true) → ∀ b, Made e b → m e.2.1.h.n = none ∧ hc.get e.2.1.h.n = some b
  | [], h, _ => by
    rcases h with h | h
    · exact absurd h.1 he
    · exact fun b hb => h.1 b hS hb
  | x :: pre, h, hp => by
    rcases h with h | h
    · have := hp x List.mem_cons_self h.1; rw [h.2] at this; cases this
    · exact Kp.at he hS h.2 (fun z hz => hp z (List.mem_cons_of_mem _ hz))
theorem Kp.plus {S : Nat → Bool} {m m' : M} {hc : H} {i : Nat} : ∀ {l : List Tn}, Kp S m hc l → (∀ e ∈ l, e.1.1 = i → e.1.2.2.2.a.cls ≠ .l) → (∀ e ∈ l, e.1.1 ≠ i → ∀ b, Made e b → m e.2.1.h.n = none → m' e.2.1.h.n = none) → Kp (plus S i) m' hc l
  | [], _, _, _ => trivial
  | e :: l, h, hc1, hm => by
    rcases h with h | h
    · left
      refine ⟨h.1, ?_⟩
      unfold Go.As.plus
      rw [if_neg (fun he => hc1 e List.mem_cons_self he h.1)]
      exact h.2
    · right
      refine ⟨fun b hS hb => ?_, Kp.plus h.2 (fun z hz => hc1 z (List.mem_cons_of_mem _ hz)) (fun z hz => hm z (List.mem_cons_of_mem _ hz))⟩
      have hne : e.1.1 ≠ i := by
        intro he
        unfold Go.As.plus at hS
        rw [if_pos he] at hS; cases hS
      have hS' : S e.1.1 = false := by
        unfold Go.As.plus at hS
        rw [if_neg hne] at hS; exact hS
      obtain ⟨h1, h2⟩ := h.1 b hS' hb
      exact ⟨hm e List.mem_cons_self hne b hb h1, h2⟩
theorem Kp.loud {S : Nat → Bool} {m m' : M} {hc hc' : H} {i : Nat} {l : List Tn} : ∀ {pre : List Tn}, Kp S m hc (pre ++ l) → (∀ x ∈ pre, x.1.2.2.2.a.cls = .l → S x.1.1 = true) → (∀ x ∈ pre, x.1.1 ≠ i) → (∀ j b, m j = none → hc.get j = some b → m' j = none ∧ hc'.get j = some b) → Kp (Go.As.plus S i) m' hc' l → Kp (Go.As.plus S i) m' hc' (pre ++ l)
  | [], _, _, _, _, hl => hl
  | x :: pre, h, hp, hne, hm, hl => by
    rcases h with h | h
    · have := hp x List.mem_cons_self h.1; rw [h.2] at this; cases this
    · right
      refine ⟨fun b hS hb => ?_, Kp.loud h.2 (fun z hz => hp z (List.mem_cons_of_mem _ hz)) (fun z hz => hne z (List.mem_cons_of_mem _ hz)) hm hl⟩
      have hS' : S x.1.1 = false := by
        unfold Go.As.plus at hS
        rw [if_neg (hne x List.mem_cons_self)] at hS; exact hS
      obtain ⟨h1, h2⟩ := h.1 b hS' hb
      exact hm _ b h1 h2
theorem Way.le {nt : Nat} {marks : List Nat} : ∀ {l : List Tn} {t : Tr V} {h : H} {t2 : Tr V} {h2 : H}, Way Sf nt marks t h l t2 h2 → h.n ≤ h2.n ∧ ∀ e ∈ l, h.n ≤ e.2.1.h.n := by
  intro l
  induction l with
  | nil => intro t h t2 h2 hw; cases hw; exact ⟨Nat.le_refl _, fun _ h => (by cases h)⟩
  | cons e l ih =>
    intro t h t2 h2 hw
    cases hw with
    | cons hs hd hn hw =>
      obtain ⟨g1, g2⟩ := ih hw
      refine ⟨by omega, fun z hz => ?_⟩
      rcases List.mem_cons.1 hz with rfl | hz
      · exact Nat.le_refl _
      · have := g2 z hz; omega
theorem Way.apart {nt : Nat} {marks : List Nat} : ∀ {l : List Tn} {t : Tr V} {h : H} {t2 : Tr V} {h2 : H}, Way Sf nt marks t h l t2 h2 → l.Pairwise (fun x y => ∀ b, Made x b → x.2.1.h.n < y.2.1.h.n) := by
  intro l
  induction l with
  | nil => intro t h t2 h2 _; exact .nil
  | cons e l ih =>
    intro t h t2 h2 hw
    cases hw with
    | cons hs hd hn hw =>
      rename_i x v s1
      refine List.Pairwise.cons (fun z hz b hb => ?_) (ih hw)
      have hcl : x.2.2.2.a.cls ≠ .l := by
        obtain ⟨f, g, e1, _⟩ := hb
        dsimp only at e1
        rw [e1]; intro hc; cases hc
      have hle := (Way.le hw).2 z hz
      rcases calm_step hd hcl x rfl with ⟨b', _, he⟩ | ⟨hno, _⟩
      · rw [he, H.n_new] at hle
        show h.n < z.2.1.h.n
        omega
      · exact absurd hb (hno b)
end
end Go.As
/- Regions that draw their order: one operation more. -/
namespace Go.As
section
variable {Z : Option Nat} {base kf : Nat} {P : Program} {ops : Array Oper} {self : Rq → Option Rs}
theorem put_lt {t : Tr V} {nt : Nat} {marks : List Nat} {h : H} {d : Nat} {v v' : V} {s' : St} (hp : put t nt marks h (some d) v = some (v', s')) : d < nt := by
  rw [put_eq] at hp
  dsimp only at hp
  split at hp
  · assumption
  · cases hp
theorem doOp_lt {c : CO} {t : Tr V} {nt : Nat} {marks : List Nat} {h : H} {v : V} {s1 : St} (hd : doOp self c ⟨t, nt, marks, h⟩ = some (v, s1)) {d : Nat} (hc : c.d = some d) : d < nt := by
  obtain ⟨g, d', a⟩ := c
  dsimp only at hc
  subst hc
  have hd' : (match wanted t g with
    | some true => act self a (some d) ⟨t, nt, marks, h⟩
    | some false => put t nt marks h (some d) (.tup [])
    | none => none) = some (v, s1) := hd
  split at hd'
  · cases a <;> simp only [act, forceH_eq] at hd'
    all_goals (repeat' split at hd')
    all_goals first | exact put_lt hd' | (cases hd'; done)
  · exact put_lt hd'
  · cases hd'
theorem put_at {t : Tr V} {nt : Nat} {marks : List Nat} {h : H} {d : Option Nat} {v v' : V} {s' : St} (hp : put t nt marks h d v = some (v', s')) (h2 : H) : ∃ s2, put t nt marks h2 d v = some (v', s2) ∧ s2.h = h2 := by
  rw [put_eq] at hp ⊢
  cases d with
  | none => cases hp; exact ⟨_, rfl, rfl⟩
  | some d =>
    dsimp only at hp ⊢
    split at hp
    · rename_i hlt; cases hp; rw [if_pos hlt]; exact ⟨_, rfl, rfl⟩
    · cases hp
theorem doOp_at {c : CO} {t : Tr V} {nt : Nat} {marks : List Nat} {h : H} {v : V} {s1 : St} (hd : doOp self c ⟨t, nt, marks, h⟩ = some (v, s1)) (hc : c.a.cls ≠ .l) (hm : ∀ f, c.a = .m f → wanted t c.g ≠ some true) {h2 : H}
    (hr : ∀ f, c.a = .r f → wanted t c.g = some true → f h2 t = some v) : ∃ s2, doOp self c ⟨t, nt, marks, h2⟩ = some (v, s2) ∧ s2.h = h2 := by
  obtain ⟨g, d, a⟩ := c
  have hdef : ∀ h, doOp self ⟨g, d, a⟩ ⟨t, nt, marks, h⟩ = (match wanted t g with
    | some true => act self a d ⟨t, nt, marks, h⟩
    | some false => put t nt marks h d (.tup [])
    | none => none) := fun _ => rfl
  rw [hdef] at hd ⊢
  dsimp only at hm hr hc
  cases hw : wanted t g with
  | none => rw [hw] at hd; cases hd
  | some b =>
    rw [hw] at hd
    cases b with
    | false => exact put_at hd h2
    | true =>
      dsimp only at hd ⊢
      cases a with
      | q f =>
        simp only [act] at hd ⊢
        cases hf : f t with
        | none => rw [hf] at hd; cases hd
        | some u => rw [hf] at hd; exact put_at hd h2
      | r f =>
        simp only [act] at hd ⊢
        rw [hr f rfl hw]
        cases hf : f h t with
        | none => rw [hf] at hd; cases hd
        | some u =>
          rw [hf] at hd
          have := (put_h hd).2
          subst this
          exact put_at hd h2
      | m f => exact absurd hw (hm f rfl)
      | w f => exact absurd rfl hc
      | c f as => exact absurd rfl hc
      | bad => exact absurd rfl hc
structure Inv (Z : Option Nat) (base : Nat) (m0 : M) (h0 : H) (w0 : World) (t0 : Tr V) (nt : Nat) (marks : List Nat) (tr : List Tn) (hend : H) (S : Nat → Bool) (a : Act) (m : M) (w : World) : Prop where
  sr : SR base m0 h0 w0 m (curH S tr hend) w
  size : nt ≤ a.tmps.size
  tmp : ∀ d v, curT S tr t0.get d = some v → ∃ x, a.tmps[d]? = some x ∧ VR m v x
  mks : MK Z m marks a.defers
  kp : Kp S m (curH S tr hend) tr
variable {m0 : M} {h0 : H} {w0 : World} {t0 : Tr V} {nt : Nat} {marks : List Nat} {hend : H}
theorem put_tmps_size (a : Act) (d : Option Nat) (x : Value) : (a.put d x).tmps.size = a.tmps.size := by
  cases d <;> simp [Act.put]
theorem Inv.tmps {tr : List Tn} {S : Nat → Bool} {a : Act} {m : M} {w : World} (hI : Inv Z base m0 h0 w0 t0 nt marks tr hend S a m w) {pre post : List Tn} {e : Tn} (htr : tr = pre ++ e :: post)
    (hne1 : ∀ x ∈ pre, x.1.1 ≠ e.1.1) (hne2 : ∀ x ∈ post, x.1.1 ≠ e.1.1) (hS : S e.1.1 = false) (hno : ∀ d, e.1.2.2.2.d = some d → ∀ x ∈ post, x.1.2.2.2.d = some d → S x.1.1 = false) {m' : M} (hext : Ext m m') {x : Value} (hv : VR m' e.2.2 x)
    (hlt : ∀ d, e.1.2.2.2.d = some d → d < nt) : ∀ d v, curT (plus S e.1.1) tr t0.get d = some v → ∃ y, (a.put e.1.2.2.2.d x).tmps[d]? = some y ∧ VR m' v y := by
  intro d v hd
  rw [htr, curT_plus hne1 hne2 hS hno] at hd
  have hsz := hI.size
  by_cases he : e.1.2.2.2.d = some d
  · rw [if_pos he] at hd
    cases hd
    refine ⟨x, ?_, hv⟩
    rw [he]
    have := hlt d he
    simp only [Act.put]
    rw [Array.getElem?_setIfInBounds_self_of_lt (by omega)]
  · rw [if_neg he, ← htr] at hd
    obtain ⟨y, hy, hvy⟩ := hI.tmp d v hd
    refine ⟨y, ?_, hvy.mono hext⟩
    cases hdd : e.1.2.2.2.d with
    | none => exact hy
    | some d' =>
      simp only [Act.put]
      rw [Array.getElem?_setIfInBounds_ne (fun h => he (by rw [hdd, h]))]
      exact hy
end
end Go.As
/- Regions that draw their order: the step. -/
namespace Go.As
section
variable {Z : Option Nat} {base kf : Nat} {P : Program} {ops : Array Oper} {Sf : (Rq → Option Rs) → Prop}
variable {m0 : M} {h0 : H} {w0 : World} {t0 : Tr V} {nt : Nat} {marks : List Nat} {hend : H}
structure Now (S : Nat → Bool) (pre : List Tn) (e : Tn) (post : List Tn) : Prop where
  un : S e.1.1 = false
  pred : ∀ j, e.1.2.1.testBit j = true → S j = true
  clo : ∀ x ∈ pre ++ e :: post, S x.1.1 = true → ∀ j, x.1.2.1.testBit j = true → S j = true
  pre : ∀ x ∈ pre, Ahead x.1 e.1
  post : ∀ x ∈ post, Ahead e.1 x.1
variable {S : Nat → Bool} {pre post : List Tn} {e : Tn}
theorem Now.no (h : Now S pre e post) {x : Tn} (hx : x ∈ post) (hb : x.1.2.1.testBit e.1.1 = true) : S x.1.1 = false := by
  cases hS : S x.1.1 with
  | false => rfl
  | true =>
    have := h.clo x (List.mem_append_right _ (List.mem_cons_of_mem _ hx)) hS _ hb
    rw [h.un] at this; cases this
theorem Now.temps (h : Now S pre e post) {t2 : Tr V} (hw : Way Sf nt marks t0 h0 (pre ++ e :: post) t2 hend) {a : Act} {m : M} {w : World} (hI : Inv Z base m0 h0 w0 t0 nt marks (pre ++ e :: post) hend S a m w) : TR m e.2.1.t nt a.tmps := by
  obtain ⟨te, s1, self, hself, hw1, he, hdo, hw2, _⟩ := hw.split
  rw [he]
  refine ⟨hI.size, fun d v hd => hI.tmp d v ?_⟩
  dsimp only at hd
  rw [get_only] at hd
  split at hd
  · rename_i hmem
    rw [curT_append]
    obtain ⟨x, s, u⟩ := e
    show curT S post (fun d => if S x.1 = true ∧ x.2.2.2.d = some d then some u else curT S pre t0.get d) d = some v
    rw [curT_none (fun z hz hzd => h.no hz ((h.post z hz).rd d hzd hmem)), if_neg (fun hc => by have := h.un; dsimp only at this; rw [hc.1] at this; cases this)]
    rw [curT_all hw1 (fun z hz hzd => h.pred _ ((h.pre z hz).wr d hzd (.inl hmem))) rfl]
    exact hd
  · cases hd
theorem MK_put {m m' : M} (hext : Ext m m') {a : Act} {d : Option Nat} {x : Value} (h : MK Z m marks a.defers) : MK Z m' marks (a.put d x).defers := by
  cases d <;> exact h.mono hext
theorem Inv.step (hS : ∀ self, Sf self → Sound P base kf self) (hbase : base ≤ w0.heap.size) (hn : Now S pre e post) {t2 : Tr V} (hw : Way Sf nt marks t0 h0 (pre ++ e :: post) t2 hend) {o : Oper} (ho : e.1.2.2.2 = compO P ops o)
    (hst : ∀ f, e.1.2.2.2.a = .r f → wanted e.2.1.t e.1.2.2.2.g = some true → StillP (fun h => f h e.2.1.t) e.2.2 e.1.1 e.1.2.1 hend (pre ++ e :: post))
    {a : Act} {m : M} {w : World} (hI : Inv Z base m0 h0 w0 t0 nt marks (pre ++ e :: post) hend S a m w) {rr : Option Nat} {K : Act → World → Prop} {Q : Exit → Act → World → Prop}
    (hK : ∀ a' m' w', Inv Z base m0 h0 w0 t0 nt marks (pre ++ e :: post) hend (plus S e.1.1) a' m' w' → K a' w') :
    if Region.wanted o (yielded ops a.tmps) = true then o.wpIn (rf rr) 0 P a w K Q else (∀ f, o.about P w a.eval = some f → (rf rr).fn f) ∧ K (a.put o.dst undef) w := by
  have hTR := hn.temps hw hI
  obtain ⟨te, s1, self, hself, hw1, he, hdo, hw2, hle⟩ := hw.split
  have hS := hS self hself
  have hB : base ≤ w.heap.size := Nat.le_trans hbase hI.sr.size
  have hne1 : ∀ x ∈ pre, x.1.1 ≠ e.1.1 := fun x hx => (hn.pre x hx).ne
  have hne2 : ∀ x ∈ post, x.1.1 ≠ e.1.1 := fun x hx => ((hn.post x hx).ne).symm
  have hno : ∀ d, e.1.2.2.2.d = some d → ∀ x ∈ post, x.1.2.2.2.d = some d → S x.1.1 = false := fun d hd x hx hxd => hn.no hx ((hn.post x hx).wr d hd (.inr hxd))
  have hdo' := hdo
  rw [he] at hdo
  have hlt : ∀ d, e.1.2.2.2.d = some d → d < nt := fun d hd => doOp_lt hdo hd
  have hg : o.guard = none ∨ (compO P ops o).g ≠ none := doOp_guard (ho ▸ hdo')
  obtain ⟨hca, hcd⟩ := compO_a hg
  have hcd' : e.1.2.2.2.d = o.dst := by rw [ho]; exact hcd
  have hat : At Z base m ⟨e.2.1.t, nt, marks, curH S (pre ++ e :: post) hend⟩ a w := ⟨hI.sr.hr, hB, hTR, hI.mks⟩
  have hplus : plus S e.1.1 e.1.1 = true := by unfold plus; rw [if_pos rfl]
  have hplus' : ∀ {i}, i ≠ e.1.1 → plus S e.1.1 i = S i := fun h => by unfold plus; rw [if_neg h]
  by_cases hl : e.1.2.2.2.a.cls = .l
  · -- a loud one
    have hpreL : ∀ x ∈ pre, x.1.2.2.2.a.cls = .l → S x.1.1 = true := fun x hx hxl => hn.pred _ ((hn.pre x hx).loud hxl (.inl hl))
    have hpostL : ∀ x ∈ post, x.1.2.2.2.a.cls = .l → plus S e.1.1 x.1.1 = false := fun x hx hxl => by
      rw [hplus' (hne2 x hx)]; exact hn.no hx ((hn.post x hx).loud hl (.inl hxl))
    have hcur : curH S (pre ++ e :: post) hend = e.2.1.h := curH_at hl hn.un hpreL
    have hdoc : doOp self (compO P ops o) ⟨e.2.1.t, nt, marks, curH S (pre ++ e :: post) hend⟩ = some (e.2.2, s1) := by
      rw [hcur, ← ho]
      have : (⟨e.2.1.t, nt, marks, e.2.1.h⟩ : St) = e.2.1 := by rw [he]
      rw [this]; exact hdo'
    refine doOp_sound hS hdoc hat (fun m' x w' hsr hv htr' hmk => hK _ m' w' ?_)
    have hsr1 : SR base m0 h0 w0 m' s1.h w' := hI.sr.trans hsr
    obtain ⟨g1, g2, g3⟩ := seg_sound (S := plus S e.1.1) hw2 hpostL hsr1
    have happ : pre ++ e :: post = (pre ++ [e]) ++ post := by simp
    have hpre' : ∀ x ∈ pre ++ [e], x.1.2.2.2.a.cls = .l → plus S e.1.1 x.1.1 = true := fun x hx hxl => by
      rcases List.mem_append.1 hx with hx | hx
      · rw [hplus' (hne1 x hx)]; exact hpreL x hx hxl
      · rw [List.mem_singleton.1 hx]; exact hplus
    have hcur' : curH (plus S e.1.1) (pre ++ e :: post) hend = curH (plus S e.1.1) post hend := by
      rw [happ]; exact curH_past hpre'
    refine ⟨by rw [hcur']; exact g1, by rw [put_tmps_size]; exact hI.size, ?_, MK_put hsr.ext hI.mks, ?_⟩
    · have := hI.tmps rfl hne1 hne2 hn.un hno hsr.ext hv hlt
      rw [hcd'] at this
      exact this
    · rw [hcur']
      refine Kp.loud hI.kp hpreL hne1 (fun j b hj hb => ?_) (.inr ⟨fun b hb => ?_, g3⟩)
      · have hjlt : j < (curH S (pre ++ e :: post) hend).n := hI.sr.hr.lt j b hb
        refine ⟨?_, ?_⟩
        · cases hm' : m' j with
          | none => rfl
          | some p => have := (hsr.new j p hm' hj).1; exact absurd hjlt (by have h2 : (curH S (pre ++ e :: post) hend).n ≤ j := this; omega)
        · have hlt2 : j < s1.h.n := Nat.lt_of_lt_of_le hjlt hsr.n
          rw [g2 j hlt2]
          have hk := hsr.keep j hjlt hj
          exact hk.trans hb
      · rw [hplus] at hb; cases hb
  · -- one that is not
    have hcurS : curH (plus S e.1.1) (pre ++ e :: post) hend = curH S (pre ++ e :: post) hend := curH_same (fun x hx hxl => hplus' (by
      rcases List.mem_append.1 hx with hx | hx
      · exact hne1 x hx
      · rcases List.mem_cons.1 hx with rfl | hx
        · exact absurd hxl hl
        · exact hne2 x hx))
    have hpl : ∀ x ∈ pre ++ e :: post, x.1.1 = e.1.1 → x.1.2.2.2.a.cls ≠ .l := fun x hx hxe => by
      rcases List.mem_append.1 hx with hx | hx
      · exact absurd hxe (hne1 x hx)
      · rcases List.mem_cons.1 hx with rfl | hx
        · exact hl
        · exact absurd hxe (hne2 x hx)
    by_cases hmade : ∃ b, Made e b
    · -- a block is laid
      obtain ⟨b, f, g, ha, hwt, hf⟩ := hmade
      have hmcls : e.1.2.2.2.a.cls = .m := by rw [ha]; rfl
      have hpreL : ∀ x ∈ pre, x.1.2.2.2.a.cls = .l → S x.1.1 = true := fun x hx hxl => hn.pred _ ((hn.pre x hx).loud hxl (.inr hmcls))
      obtain ⟨hmn, hbn⟩ := Kp.at hl hn.un hI.kp hpreL b ⟨f, g, ha, hwt, hf⟩
      have hwant := wanted_sound (ops := ops) (o := o) hTR (ho ▸ hwt) hg
      rw [if_pos hwant]
      refine ⟨fun _ _ => trivial, ?_⟩
      have ha' : compOp P o.op = .m f := by rw [← hca, ← ho]; exact ha
      have hsem : o.semAt (rf rr).round a.eval = execOp a.eval o := Oper.semAt_eq _ _ _ (not_defer (P := P) (by rw [ha']; intro h; cases h))
      rw [hsem]
      obtain ⟨obj, z, hrun, hbr, hv, _⟩ := comp_m (w := w) hTR hmn ha' hf
      rw [hrun, Oper.uponIn_value]
      have hval : e.2.2 = g e.2.1.h.n := by
        have h1 : (match wanted e.2.1.t e.1.2.2.2.g with
          | some true => act self e.1.2.2.2.a e.1.2.2.2.d ⟨e.2.1.t, nt, marks, e.2.1.h⟩
          | some false => put e.2.1.t nt marks e.2.1.h e.1.2.2.2.d (.tup [])
          | none => none) = some (e.2.2, s1) := by
          have : (⟨e.2.1.t, nt, marks, e.2.1.h⟩ : St) = e.2.1 := by rw [he]
          have h2 := hdo'
          rw [← this] at h2
          exact h2
        rw [hwt, ha] at h1
        simp only [act, hf, forceH_eq] at h1
        exact (put_h h1).2
      have hext : ∀ q, Ext m (m.set e.2.1.h.n q) := fun q => .set q hmn
      have hsr' := hI.sr.late hB hbn hmn ((Way.le hw).2 e (by simp)) hbr
      rw [← hcurS] at hsr'
      refine hK _ _ _ ⟨hsr', by rw [put_tmps_size]; exact hI.size, ?_, MK_put (hext _) hI.mks, ?_⟩
      · have := hI.tmps rfl hne1 hne2 hn.un hno (hext _) (x := z) (by rw [hval]; exact hv) hlt
        rw [hcd'] at this
        exact this
      · rw [hcurS]
        have hap := hw.apart
        rw [List.pairwise_append] at hap
        refine hI.kp.plus hpl (fun x hx hxe b' hb' hmx => ?_)
        rw [M.set_ne _ _ (fun heq => ?_)]
        · exact hmx
        · rcases List.mem_append.1 hx with hx | hx
          · have := hap.2.2 x hx e List.mem_cons_self b' hb'; omega
          · rcases List.mem_cons.1 hx with rfl | hx
            · exact hxe rfl
            · have := (List.pairwise_cons.1 hap.2.1).1 x hx b ⟨f, g, ha, hwt, hf⟩; omega
    · -- nothing is laid
      have hpst : (⟨e.2.1.t, nt, marks, e.2.1.h⟩ : St) = e.2.1 := by rw [he]
      obtain ⟨s2, hd2, hs2⟩ := doOp_at (h2 := curH S (pre ++ e :: post) hend) (by rw [hpst]; exact hdo' : doOp self e.1.2.2.2 ⟨e.2.1.t, nt, marks, e.2.1.h⟩ = some (e.2.2, s1)) hl
        (fun f hf hwt => by
          have h1 := hdo'
          rw [← hpst] at h1
          rcases calm_step h1 hl e.1 rfl with ⟨b, hb, _⟩ | ⟨hnb, _⟩
          · exact hmade ⟨b, by rw [hpst] at hb; exact hb⟩
          · have h2 : (match wanted e.2.1.t e.1.2.2.2.g with
              | some true => act self e.1.2.2.2.a e.1.2.2.2.d ⟨e.2.1.t, nt, marks, e.2.1.h⟩
              | some false => put e.2.1.t nt marks e.2.1.h e.1.2.2.2.d (.tup [])
              | none => none) = some (e.2.2, s1) := h1
            rw [hwt, hf] at h2
            simp only [act] at h2
            cases hft : f e.2.1.t with
            | none => rw [hft] at h2; cases h2
            | some bg => exact hmade ⟨bg.1, f, bg.2, hf, hwt, hft⟩)
        (fun f hf hwt => still_spec (f := fun h => f h e.2.1.t) hn.pred hn.un (hst f hf hwt) hn.clo)
      rw [ho] at hd2
      refine doOp_sound hS hd2 hat (fun m' x w' hsr hv htr' hmk => hK _ m' w' ?_)
      rw [hs2] at hsr
      refine ⟨by rw [hcurS]; exact hI.sr.trans hsr, by rw [put_tmps_size]; exact hI.size, ?_, MK_put hsr.ext hI.mks, ?_⟩
      · have := hI.tmps rfl hne1 hne2 hn.un hno hsr.ext hv hlt
        rw [hcd'] at this
        exact this
      · rw [hcurS]
        refine hI.kp.plus hpl (fun x hx hxe b' hb' hmx => ?_)
        cases hm' : m' x.2.1.h.n with
        | none => rfl
        | some p => have := hsr.new _ p hm' hmx; dsimp only at this; omega
end
end Go.As
/- Regions that draw their order: whole. -/
namespace Go.As
section
variable {Z : Option Nat} {base kf : Nat} {P : Program} {ops : Array Oper} {Sf : (Rq → Option Rs) → Prop}
variable {m0 : M} {h0 : H} {w0 : World} {t0 : Tr V} {nt : Nat} {marks : List Nat} {hend : H}
abbrev dn (listed : Array Bool) : Nat → Bool := fun i => listed.getD i true
theorem dn_set {listed : Array Bool} {i : Nat} (hi : i < listed.size) : dn (listed.setIfInBounds i true) = plus (dn listed) i := by
  funext j
  unfold plus dn
  by_cases he : j = i
  · subst he
    rw [if_pos rfl, Array.getD_eq_getD_getElem?, Array.getElem?_setIfInBounds_self_of_lt hi]; rfl
  · rw [if_neg he, Array.getD_eq_getD_getElem?, Array.getElem?_setIfInBounds_ne (Ne.symm he), ← Array.getD_eq_getD_getElem?]
theorem draw_any (hS : ∀ self, Sf self → Sound P base kf self) (hbase : base ≤ w0.heap.size) {B : Nat → Nat} {l : List Dn} (hD : Drawn P ops B l) {tr : List Tn} (hl : tr.map (·.1) = l) {t2 : Tr V} (hw : Way Sf nt marks t0 h0 tr t2 hend) (hst : ∀ e ∈ tr, ∀ f, e.1.2.2.2.a = .r f → wanted e.2.1.t e.1.2.2.2.g = some true → StillP (fun h => f h e.2.1.t) e.2.2 e.1.1 e.1.2.1 hend tr)
    {rr : Option Nat} {Q : Exit → Act → World → Prop} (hQ : ∀ a m w, SR base m0 h0 w0 m hend w → TR m t2 nt a.tmps → MK Z m marks a.defers → Q .normal a w) :
    ∀ (fuel : Nat) (listed : Array Bool) (a : Act) (m : M) (w : World), listed.size = ops.size → listed.toList.count false ≤ fuel → (∀ x ∈ tr, dn listed x.1.1 = true → ∀ j, x.1.2.1.testBit j = true → dn listed j = true) →
      Inv Z base m0 h0 w0 t0 nt marks tr hend (dn listed) a m w → wpAnyIn (rf rr) 0 P .any ops Q fuel listed a w := by
  have hmem : ∀ x ∈ tr, ∃ o, ops[x.1.1]? = some o ∧ x.1.2.2.2 = compO P ops o ∧ x.1.2.1 = B x.1.1 := fun x hx => by
    obtain ⟨o, h1, h2, _, h4⟩ := hD.mem x.1 (by rw [← hl]; exact List.mem_map_of_mem hx)
    exact ⟨o, h1, h2, h4⟩
  have hpairs : tr.Pairwise (fun x y => Ahead x.1 y.1) := by
    have := hD.pairs
    rw [← hl, List.pairwise_map] at this
    exact this
  -- all are done
  have hdone : ∀ (listed : Array Bool) (a : Act) (m : M) (w : World), listed.size = ops.size → Inv Z base m0 h0 w0 t0 nt marks tr hend (dn listed) a m w → Region.ready .any ops listed = [] → Q .normal a w := by
    intro listed a m w hsz hI hr
    have hall : ∀ i, dn listed i = true := by
      intro i
      induction i using Nat.strongRecOn with
      | ind i ih =>
        cases hd : dn listed i with
        | true => rfl
        | false =>
          exfalso
          have hlt : i < ops.size := by
            rcases Nat.lt_or_ge i ops.size with h | h
            · exact h
            · unfold dn at hd
              rw [Array.getD_eq_getD_getElem?, Array.getElem?_eq_none (by omega)] at hd; cases hd
          have : i ∈ Region.ready .any ops listed := mem_ready.2 ⟨hd, ops[i], Array.getElem?_eq_getElem hlt, fun e he hb => by
            have hlt' := hD.edges i ops[i] (Array.getElem?_eq_getElem hlt) e he hb
            have := ih e.on hlt'
            unfold dn at this
            rw [Array.getD_eq_getD_getElem?, Array.getElem?_eq_getElem (by omega)] at this ⊢
            exact this⟩
          rw [hr] at this; cases this
    have hcur : curH (dn listed) tr hend = hend := by
      have := curH_past (S := dn listed) (l := []) (hend := hend) (pre := tr) (fun x _ _ => hall x.1.1)
      rw [List.append_nil] at this
      exact this
    refine hQ a m w (by have := hI.sr; rw [hcur] at this; exact this) ⟨hI.size, fun d v hd => hI.tmp d v ?_⟩ hI.mks
    rw [curT_all hw (fun x _ _ => hall x.1.1) rfl]; exact hd
  intro fuel
  induction fuel with
  | zero =>
    intro listed a m w hsz hcnt hcl hI
    have hr : Region.ready .any ops listed = [] := by
      cases hr : Region.ready .any ops listed with
      | nil => rfl
      | cons i r =>
        exfalso
        have hi : i ∈ Region.ready .any ops listed := by rw [hr]; exact List.mem_cons_self
        obtain ⟨hun, o, ho, _⟩ := mem_ready.1 hi
        have hlt : i < listed.size := by rw [hsz]; exact (Array.getElem?_eq_some_iff.1 ho).1
        have : false ∈ listed.toList := by
          rw [Array.getD_eq_getD_getElem?, Array.getElem?_eq_getElem hlt] at hun
          have hun' : listed[i] = false := hun
          rw [← hun']
          exact Array.mem_toList_iff.2 (Array.getElem_mem hlt)
        have := List.count_pos_iff.2 this
        omega
    exact ⟨hr, hdone listed a m w hsz hI hr⟩
  | succ fuel ih =>
    intro listed a m w hsz hcnt hcl hI
    refine ⟨fun hr => hdone listed a m w hsz hI hr, fun i hi => ?_⟩
    obtain ⟨hun, o, ho, hedge⟩ := mem_ready.1 hi
    have hlt : i < listed.size := by rw [hsz]; exact (Array.getElem?_eq_some_iff.1 ho).1
    have hun0 : dn listed i = false := hun
    obtain ⟨x, hx, hxi⟩ := hD.all i (by rw [← hsz]; exact hlt)
    rw [← hl] at hx
    obtain ⟨e, he, hex⟩ := List.mem_map.1 hx
    have hei : e.1.1 = i := by rw [hex]; exact hxi
    obtain ⟨pre, post, htr⟩ := List.append_of_mem he
    obtain ⟨o', ho', hco, hB⟩ := hmem e he
    rw [hei, ho] at ho'
    cases ho'
    have hedge' : ∀ ed ∈ o.after, Region.binds .any ed = true → dn listed ed.on = true := fun ed hed hb => by
      have hlt' := hD.edges i o ho ed hed hb
      have h1 := hedge ed hed hb
      unfold dn
      rw [Array.getD_eq_getD_getElem?, Array.getElem?_eq_getElem (by omega)] at h1 ⊢
      exact h1
    have hpred : ∀ j, e.1.2.1.testBit j = true → dn listed j = true := fun j hj => by
      rw [hB, hei] at hj
      obtain ⟨ed, hed, hb, h1⟩ := hD.before i o j ho hj
      have hl1 := hedge' ed hed hb
      rcases h1 with h1 | h1
      · rw [← h1]; exact hl1
      · have hlt' := hD.edges i o ho ed hed hb
        obtain ⟨y, hy, hyi⟩ := hD.all ed.on (by omega)
        rw [← hl] at hy
        obtain ⟨z, hz, hzy⟩ := List.mem_map.1 hy
        have hzi : z.1.1 = ed.on := by rw [hzy]; exact hyi
        obtain ⟨_, _, _, hzB⟩ := hmem z hz
        exact hcl z hz (by rw [hzi]; exact hl1) j (by rw [hzB, hzi]; exact h1)
    have hset : dn (listed.setIfInBounds i true) = plus (dn listed) i := dn_set hlt
    rw [htr] at hpairs
    rw [List.pairwise_append] at hpairs
    have hnow : Now (dn listed) pre e post := ⟨by rw [hei]; exact hun0, hpred, fun x hx => hcl x (by rw [htr]; exact hx), fun x hx => hpairs.2.2 x hx e List.mem_cons_self, fun x hx => (List.pairwise_cons.1 hpairs.2.1).1 x hx⟩
    unfold Go.wpOpIn
    rw [ho]
    dsimp only
    have hst' := hst e he
    rw [htr] at hst' hw hI
    refine Inv.step (S := dn listed) hS hbase hnow hw hco hst' hI (fun a' m' w' hI' => ?_)
    refine ih (listed.setIfInBounds i true) a' m' w' (by simpa using hsz) ?_ ?_ ?_
    · have h1 : listed.toList[i]'(by simpa using hlt) = false := by
        have : listed[i]? = some false := by
          rw [Array.getD_eq_getD_getElem?, Array.getElem?_eq_getElem hlt] at hun
          rw [Array.getElem?_eq_getElem hlt]
          exact congrArg some hun
        rw [Array.getElem?_eq_getElem hlt] at this
        simpa using this
      have h2 : 0 < listed.toList.count false := List.count_pos_iff.2 (by rw [← h1]; exact List.getElem_mem _)
      have h3 : (listed.setIfInBounds i true).toList.count false = listed.toList.count false - 1 := by
        rw [Array.toList_setIfInBounds, List.count_set (by simpa using hlt), h1]
        simp
      omega
    · intro x hx hSx j hj
      rw [hset] at hSx ⊢
      unfold plus at hSx ⊢
      by_cases hji : j = i
      · rw [if_pos hji]
      · rw [if_neg hji]
        by_cases hxi' : x.1.1 = i
        · have hxe : x.1.2.1 = e.1.2.1 := by
            obtain ⟨_, _, _, h1⟩ := hmem x hx
            rw [h1, hB, hxi', hei]
          rw [hxe] at hj; exact hpred j hj
        · rw [if_neg hxi'] at hSx; exact hcl x hx hSx j hj
    · rw [hset, htr, ← hei]; exact hI'
end
end Go.As
/- What the machine answers, the program answers. -/
namespace Go.As
end Go.As
/- The machine with a table of calls that are known: each call of the table was computed before. What it answers, the program answers. -/
namespace Go.As
def eqT {α : Type} (f : α → α → Bool) : Tr α → Tr α → Bool
  | .leaf, .leaf => true
  | .node l a r, .node l' a' r' => eqT f l l' && (match a, a' with
    | none, none => true
    | some a, some b => f a b
    | _, _ => false) && eqT f r r'
  | _, _ => false
theorem eqT_eq {α : Type} {f : α → α → Bool} (hf : ∀ a b, f a b = true → a = b) : ∀ (s t : Tr α), eqT f s t = true → s = t
  | .leaf, .leaf, _ => rfl
  | .node l a r, .node l' a' r', h => by
    simp only [eqT, Bool.and_eq_true] at h
    obtain ⟨⟨h1, h2⟩, h3⟩ := h
    rw [eqT_eq hf l l' h1, eqT_eq hf r r' h3]
    cases a <;> cases a' <;> simp_all
    exact hf _ _ h2
  | .leaf, .node _ _ _, h => by simp [eqT] at h
  | .node _ _ _, .leaf, h => by simp [eqT] at h
def eqG : Option (Nat × Nat) → Option (Nat × Nat) → Bool
  | none, none => true
  | some (a, b), some (c, d) => Nat.beq a c && Nat.beq b d
  | _, _ => false
theorem eqG_eq {a b : Option (Nat × Nat)} (h : eqG a b = true) : a = b := by
  rcases a with _ | ⟨a, a'⟩ <;> rcases b with _ | ⟨b, b'⟩ <;> simp_all [eqG]
def eqI : Value → Value → Bool
  | .bool a, .bool b => a == b
  | .int j a, .int k b => j == k && ieq a b
  | _, _ => false
theorem eqI_eq {a b : Value} (h : eqI a b = true) : a = b := by
  cases a <;> cases b <;> first
    | (simp_all [eqI]; done)
    | (rename_i k n j l
       simp only [eqI, Bool.and_eq_true] at h
       obtain ⟨h1, h2⟩ := h
       have h1' : k = j := by simpa using h1
       subst h1'
       cases n <;> cases l <;> simp only [ieq] at h2 <;> first | (rw [Nat.eq_of_beq_eq_true h2]; done) | cases h2)
def eqIL : List Value → List Value → Bool
  | [], [] => true
  | a :: l, b :: r => eqI a b && eqIL l r
  | _, _ => false
theorem eqIL_eq : ∀ {l r : List Value}, eqIL l r = true → l = r
  | [], [], _ => rfl
  | a :: l, b :: r, h => by
    simp only [eqIL, Bool.and_eq_true] at h
    rw [eqI_eq h.1, eqIL_eq h.2]
  | [], _ :: _, h => by cases h
  | _ :: _, [], h => by cases h
def eqKey : Value → Value → Bool
  | .agg ⟨a⟩, .agg ⟨b⟩ => eqIL a b
  | a, b => eqI a b
theorem eqKey_eq {a b : Value} (h : eqKey a b = true) : a = b := by
  unfold eqKey at h
  split at h
  · rw [eqIL_eq h]
  · exact eqI_eq h
def eqEs : List (Value × V × Nat) → List (Value × V × Nat) → Bool
  | [], [] => true
  | (k, v, n) :: l, (k', v', n') :: l' => eqKey k k' && eqV v v' && Nat.beq n n' && eqEs l l'
  | _, _ => false
theorem eqEs_eq : ∀ {l r : List (Value × V × Nat)}, eqEs l r = true → l = r
  | [], [], _ => rfl
  | (k, v, n) :: l, (k', v', n') :: l', h => by
    simp only [eqEs, Bool.and_eq_true] at h
    rw [eqKey_eq h.1.1.1, eqV_eq h.1.1.2, Nat.eq_of_beq_eq_true h.1.2, eqEs_eq h.2]
  | [], (_, _, _) :: _, h => by cases h
  | (_, _, _) :: _, [], h => by cases h
def eqB : Blk → Blk → Bool
  | .cells c w g, .cells c' w' g' => eqT eqV c c' && w == w' && eqG g g'
  | .map l k, .map l' k' => Nat.beq k k' && eqEs l l'
  | .defd a, .defd b => a == b
  | .dead, .dead => true
  | _, _ => false
theorem eqB_eq (a b : Blk) (h : eqB a b = true) : a = b := by
  unfold eqB at h
  split at h
  · simp only [Bool.and_eq_true, beq_iff_eq] at h
    rw [eqT_eq (fun _ _ => eqV_eq) _ _ h.1.1, h.1.2, eqG_eq h.2]
  · simp only [Bool.and_eq_true] at h
    rw [Nat.eq_of_beq_eq_true h.1, eqEs_eq h.2]
  · rw [eq_of_beq h]
  · rfl
  · cases h
def eqH : H → H → Bool
  | ⟨t, n, l⟩, ⟨t', n', l'⟩ => Nat.beq n n' && Nat.beq l l' && eqT eqB t t'
theorem eqH_eq {a b : H} (h : eqH a b = true) : a = b := by
  obtain ⟨t, n, l⟩ := a
  obtain ⟨t', n', l'⟩ := b
  simp only [eqH, Bool.and_eq_true] at h
  rw [eqT_eq eqB_eq _ _ h.2, Nat.eq_of_beq_eq_true h.1.1, Nat.eq_of_beq_eq_true h.1.2]
abbrev Memo := FuncId → List V → H → Option (V × H)
structure Kn where
  f : FuncId
  args : List V
  h : H
  v : V
  h' : H
def look : List Kn → Memo
  | [], _, _, _ => none
  | ⟨f0, a0, h0, v, h'⟩ :: l, f, a, h => match Nat.beq f f0 with
    | true => (match eqL eqV a a0 && eqH h h0 with
      | true => some (v, h')
      | false => look l f a h)
    | false => look l f a h
def CallOk (P : Program) (f : FuncId) (args : List V) (h : H) (v : V) (h' : H) : Prop := ∀ (base : Nat) (m : M) (w : World) (xs : List Value), HR base m h w → base ≤ w.heap.size → VRs m args xs →
  (∃ fn, P.funcs[f]? = some fn ∧ fn.body.isSome = true ∧ (fn.name == "runtime.NumGoroutine") = false) ∧ CallsIn Fence.wide 0 P f xs.toArray w (PostV base m h w v h')
def MemoOk (P : Program) (k : Memo) : Prop := ∀ f args h v h', k f args h = some (v, h') → CallOk P f args h v h'
theorem MemoOk.nil (P : Program) : MemoOk P (look []) := fun _ _ _ _ _ h => by cases h
section
variable {P : Program}
def eqU : V → V → Bool
  | .tup a, .tup b => eqL eqV a b
  | a, b => eqV a b
def chk (r : Option Rs) (v : V) (h' : H) : Bool := match r with
  | some (.val u g) => eqU u v && eqH g h'
  | _ => false
theorem MemoOk.cons {l : List Kn} (hl : MemoOk P (look l)) {f : FuncId} {args : List V} {h : H} {v : V} {h' : H} (hc : CallOk P f args h v h') : MemoOk P (look (⟨f, args, h, v, h'⟩ :: l)) := by
  intro f1 a1 h1 v1 h1' he
  simp only [look] at he
  cases hf : Nat.beq f1 f with
  | false => rw [hf] at he; exact hl _ _ _ _ _ he
  | true =>
    rw [hf] at he
    dsimp only at he
    cases hq : eqL eqV a1 args && eqH h1 h with
    | false => rw [hq] at he; exact hl _ _ _ _ _ he
    | true =>
      rw [hq] at he
      cases he
      rw [Bool.and_eq_true] at hq
      rw [Nat.eq_of_beq_eq_true hf, eqL_eq (fun _ _ => eqV_eq) hq.1, eqH_eq hq.2]
      exact hc
theorem CallOk.calls {f : FuncId} {args : List V} {v : V} {h' : H} (hc : CallOk P f args H.empty v h') {xs : List Value} (hx : VRs M.no args xs) (w : World) :
    CallsIn Fence.wide 0 P f xs.toArray w fun e w' => ∃ m x, e = .returned x ∧ VR m v x ∧ w'.os = w.os ∧ w'.tape = w.tape ∧ w'.output = w.output ∧ w.heap.size ≤ w'.heap.size ∧ ∀ r, r < w.heap.size → w'.heap[r]? = w.heap[r]? := by
  refine CallsIn.mono (hc w.heap.size _ w xs (HR.empty w) (Nat.le_refl _) hx).2 ?_
  rintro e w' ⟨m', x, rfl, hs, hv⟩
  refine ⟨m', x, rfl, hv, hs.os, hs.tape, hs.output, hs.size, fun r hr => hs.frame r hr (fun i b s hi _ hm => by cases hm)⟩
theorem CallOk.everywhere {f : FuncId} {v : V} {h' : H} (hc : CallOk P f [] H.empty v h') (hb : strict v = true) (h : H) : CallOk P f [] h v h := by
  intro base m w xs hr hB hvs
  have hx : xs = [] := List.eq_nil_of_length_eq_zero hvs.1.symm
  subst hx
  refine ⟨(hc w.heap.size M.no w [] (HR.empty w) (Nat.le_refl _) (.nil _)).1, CallsIn.mono (hc.calls (.nil _) w) ?_⟩
  rintro e w' ⟨m', x, rfl, hv, ho, ht, hp, hsz, hfr⟩
  refine ⟨m, x, rfl, ?_, hv.of_strict hb⟩
  exact {
    ext := .refl m
    new := fun i p h1 h2 => by rw [h1] at h2; cases h2
    hr := {
      blk := fun i b r s hi hm => by rw [hfr r (hr.rng i r s hm)]; exact hr.blk i b r s hi hm
      inj := hr.inj
      own := hr.own
      frz := fun r p hp => by
        have he := hr.frz r p hp
        rw [hfr r he.lt]; exact he
      nfz := hr.nfz
      rng := fun i r s hm => Nat.lt_of_lt_of_le (hr.rng i r s hm) hsz
      lt := hr.lt
      dom := hr.dom }
    n := Nat.le_refl _
    os := ho
    tape := ht
    output := hp
    size := hsz
    frame := fun r hr' _ => hfr r hr'
    fresh := fun i b r s hi hw hm => .inr ⟨i, b, s, hi, hw, hm⟩
    low := fun _ _ _ => rfl
    lowle := Nat.le_refl _
    fzn := fun _ _ h => .inl h
    keep := fun _ _ _ => rfl }
end
theorem keptBut_of_frame {w w' : World} (ho : w'.os = w.os) (hp : w'.output = w.output) (hf : ∀ r, r < w.heap.size → w'.heap[r]? = w.heap[r]?) (may : MemPlace → Prop) : w.keptBut w' may :=
  ⟨ho, hp, fun i hi => by rw [hf i hi]; exact (World.keptBut_refl w may).2.2 i hi⟩
theorem frozen_of_frame {w w' : World} (hf : ∀ r, r < w.heap.size → w'.heap[r]? = w.heap[r]?) (a : Addr) (ha : a.block < w.heap.size) : w'.frozen? a = w.frozen? a := by
  unfold World.frozen?; rw [hf _ ha]
section
open Go.ChangeShapes Go.WideShapes
variable {H : Type} {enc : TypeId × Value → H} {P : Program}
end
end Go.As
