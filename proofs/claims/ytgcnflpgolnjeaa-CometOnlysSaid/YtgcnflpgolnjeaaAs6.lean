/- The machine that the proof runs on, part 6 of 6: texts of my own, put together by program. No statement is proved here. -/
import Derived.Test.YtgcnflpgolnjeaaAs5
set_option linter.unusedVariables false
set_option linter.unusedSimpArgs false
/- Calls carried out in a memory of their own, which hand back new memory. -/
namespace Go.As
noncomputable def addBs (h : H) : List Blk → H
  | [] => h
  | b :: l => addBs (h.new b) l
theorem addBs_n : ∀ (l : List Blk) (h : H), (addBs h l).n = h.n + l.length
  | [], h => rfl
  | b :: l, h => by show (addBs (h.new b) l).n = _; rw [addBs_n l, H.n_new, List.length_cons]; omega
theorem addBs_low : ∀ (l : List Blk) (h : H), (addBs h l).low = h.low
  | [], h => rfl
  | b :: l, h => by show (addBs (h.new b) l).low = _; rw [addBs_low l, H.low_new]
theorem addBs_get : ∀ (l : List Blk) (h : H) (i : Nat), (∀ j b, h.get j = some b → j < h.n) → (addBs h l).get i = if i < h.n then h.get i else l[i - h.n]?
  | [], h, i, hlt => by
    show h.get i = _
    split
    · rfl
    · rename_i hi
      cases hg : h.get i with
      | none => simp
      | some b => exact absurd (hlt i b hg) hi
  | b :: l, h, i, hlt => by
    show (addBs (h.new b) l).get i = _
    rw [addBs_get l (h.new b) i (fun j c hj => by
      rw [H.get_new] at hj
      rw [H.n_new]
      split at hj
      · omega
      · have := hlt j c hj; omega)]
    rw [H.n_new, H.get_new]
    by_cases h1 : i < h.n
    · rw [if_pos (by omega), if_neg (by omega), if_pos h1]
    · by_cases h2 : i = h.n
      · subst h2; simp
      · rw [if_neg (by omega), if_neg h1, show i - h.n = (i - (h.n + 1)) + 1 from by omega, List.getElem?_cons_succ]
def addP (h : H) (l : List Blk) (K : H → Prop) : Prop := match l with
  | [] => K h
  | b :: l => newP h b fun _ h' => addP h' l K
def addNP (h : H) (news : Nat → List Blk) (K : Nat → H → Prop) : Prop := match h with
  | ⟨t, n, l⟩ => normN n fun n => addP ⟨t, n, l⟩ (news n) (K n)
theorem addP_eq : ∀ (l : List Blk) (h : H) (K : H → Prop), addP h l K = K (addBs h l)
  | [], h, K => rfl
  | b :: l, h, K => by show (newP h b fun _ h' => addP h' l K) = _; rw [newP_eq, addP_eq l]; rfl
theorem addNP_eq (h : H) (news : Nat → List Blk) (K : Nat → H → Prop) : addNP h news K = K h.n (addBs h (news h.n)) := by
  obtain ⟨t, n, l⟩ := h
  show (normN n fun n => addP ⟨t, n, l⟩ (news n) (K n)) = _
  rw [normN_eq, addP_eq]
def rhoN (n0 : Nat) (rl : List Nat) (i : Nat) : Nat := match Nat.blt i n0 with
  | true => i
  | false => rl.getD (i - n0) i
def newsOk (ρ : Nat → Nat) (n0 n : Nat) (h' : H) : List Blk → List Nat → Prop
  | [], [] => True
  | b :: bs, r :: rs => (∃ b', h'.get r = some b' ∧ b'.wr = true ∧ SubQ ρ b b') ∧ ltB n b ∧ Nat.ble n0 r = true ∧ newsOk ρ n0 n h' bs rs
  | _, _ => False
def oldOk (h' : H) : Nat → List Blk → Prop
  | _, [] => True
  | i, b :: bs => (match b.wr with | true => h'.get i = some b | false => True) ∧ oldOk h' (i + 1) bs
def nodupB : List Nat → Bool
  | [] => true
  | a :: l => !memB l a && nodupB l
theorem nodupB_spec : ∀ {l : List Nat}, nodupB l = true → ∀ (i j a : Nat), l[i]? = some a → l[j]? = some a → i = j
  | [], _, i, j, a, hi, _ => by simp at hi
  | x :: l, h, i, j, a, hi, hj => by
    simp only [nodupB, Bool.and_eq_true, Bool.not_eq_true'] at h
    have hx : x ∉ l := fun hc => by rw [memB_iff.2 hc] at h; cases h.1
    cases i with
    | zero =>
      cases j with
      | zero => rfl
      | succ j =>
        simp at hi hj
        subst hi
        exact absurd (List.mem_of_getElem? hj) hx
    | succ i =>
      cases j with
      | zero =>
        simp at hi hj
        subst hj
        exact absurd (List.mem_of_getElem? hi) hx
      | succ j => rw [nodupB_spec h.2 i j a (by simpa using hi) (by simpa using hj)]
def RetRO (bs : List Blk) (news : Nat → List Blk) (vC : Nat → V) (v : V) (h' : H) : Prop :=
  ∃ rl : List Nat, v = renV (rhoN bs.length rl) (vC bs.length) ∧ ltV (bs.length + (news bs.length).length) (vC bs.length) = true ∧ nodupB rl = true ∧
    newsOk (rhoN bs.length rl) bs.length (bs.length + (news bs.length).length) h' (news bs.length) rl ∧ oldOk h' 0 bs
theorem newsOk_spec {ρ : Nat → Nat} {n0 n : Nat} {h' : H} : ∀ {bs : List Blk} {rs : List Nat}, newsOk ρ n0 n h' bs rs → bs.length = rs.length ∧ ∀ (i : Nat) (b : Blk), bs[i]? = some b → ∃ (r : Nat) (b' : Blk), rs[i]? = some r ∧ h'.get r = some b' ∧ b'.wr = true ∧ SubQ ρ b b' ∧ ltB n b ∧ n0 ≤ r
  | [], [], _ => ⟨rfl, fun i b h => by simp at h⟩
  | c :: bs, r :: rs, ⟨⟨b', h1, h2, h3⟩, h4, h5, h6⟩ => by
    obtain ⟨g1, g2⟩ := newsOk_spec h6
    refine ⟨by simp [g1], fun i b hb => ?_⟩
    cases i with
    | zero => simp at hb; subst hb; exact ⟨r, b', rfl, h1, h2, h3, h4, Nat.le_of_ble_eq_true h5⟩
    | succ i => obtain ⟨r', b2, k1, k2⟩ := g2 i b (by simpa using hb); exact ⟨r', b2, by simpa using k1, k2⟩
theorem oldOk_spec {h' : H} : ∀ {bs : List Blk} {k : Nat}, oldOk h' k bs → ∀ (i : Nat) (b : Blk), bs[i]? = some b → b.wr = true → h'.get (k + i) = some b
  | c :: bs, k, ⟨h1, h2⟩, i, b, hb, hw => by
    cases i with
    | zero => simp at hb; subst hb; rw [hw] at h1; exact h1
    | succ i => have := oldOk_spec h2 i b (by simpa using hb) hw; rwa [show k + 1 + i = k + (i + 1) from by omega] at this
def ViewM (h : H) (vs : Vw) (bs : List Blk) : Prop := vs.length ≤ bs.length ∧ (∀ (k k' j o o' : Nat), vs[k]? = some (some (j, o)) → vs[k']? = some (some (j, o')) → (∃ es c, h.get j = some (.map es c)) → k = k') ∧ ∀ (k : Nat) (b : Blk), bs[k]? = some b → match b with
  | .cells c w g => (w = false ∧ g = none) ∧ ∀ j o, vs[k]? = some (some (j, o)) → ∃ c' wr g, h.get j = some (.cells c' wr g) ∧ ∀ (i : Nat) (d : V), c.get i = some d → one d = true ∧ ∃ v, c'.get (o + i) = some v ∧ Ca vs v d
  | .map es clock => ∀ j o, vs[k]? = some (some (j, o)) → o = 0 ∧ h.get j = some (.map es clock) ∧ ∀ e ∈ es, ltV 0 e.2.1 = true
  | .dead => True
  | _ => False
theorem mview_some {vs : Vw} {m : M} {k r : Nat} {s : Nat × Nat} (h : mview vs m k = some (r, s)) : ∃ j o q, vs[k]? = some (some (j, o)) ∧ m j = some (r, q) ∧ s = (q.1 + o, q.2) := by
  rw [mview_at] at h
  split at h
  · rename_i j o hk
    split at h
    · rename_i r' q hm
      cases h
      exact ⟨j, o, q, hk, hm, rfl⟩
    · cases h
  · cases h
theorem ViewM.hr {h : H} {vs : Vw} {bs : List Blk} (hv : ViewM h vs bs) {base : Nat} {m : M} {w : World} (hr : HR base m h w) : HR base (mview vs m) (hp bs) w where
  blk := fun i b r s hi hm => by
    rw [hp_get] at hi
    have hb := hv.2.2 i b hi
    obtain ⟨j, o, q, hk, hmj, rfl⟩ := mview_some hm
    cases b with
    | cells c w0 g0 =>
      obtain ⟨⟨rfl, rfl⟩, hb⟩ := hb
      obtain ⟨c', wr, g, hg, hc⟩ := hb j o hk
      obtain ⟨a, e, lo, hi', ho, h1, h2⟩ := hr.blk j _ _ _ hg hmj
      refine ⟨a, e, lo, hi', ho, fun k d hd => ?_, fun sz K hK => by cases hK⟩
      · obtain ⟨h2, v, h3, h4⟩ := hc k d hd
        obtain ⟨_, ⟨x, hx, hvx⟩, h5⟩ := h1 _ v h3
        refine ⟨h2, ⟨x, ?_, h4.vr hvx⟩, ?_⟩
        · rw [← hx, ← Nat.add_assoc]
        · rw [Nat.add_assoc]; exact h5
    | map es clock =>
      obtain ⟨rfl, hg, hl⟩ := hb j o hk
      obtain ⟨hs, a, ho, hln, hc⟩ := hr.blk j _ _ _ hg hmj
      subst hs
      exact ⟨rfl, a, ho, hln, fun k e x he hx => let ⟨h1, h2, h3⟩ := hc k e x he hx; ⟨h1, h2, VR.of_lt0 (m := m) (m' := mview vs m) (fun _ _ h => h) (hl e (List.mem_of_getElem? he)) h3⟩⟩
    | dead => trivial
    | _ => exact hb.elim
  inj := fun i j bi bj r s s' hi hj hw hlj hmi hmj => by
    rw [hp_get] at hi hj
    have hbi := hv.2.2 i bi hi
    have hbj := hv.2.2 j bj hj
    obtain ⟨a, o, q, hk, hma, rfl⟩ := mview_some hmi
    obtain ⟨a', o', q', hk', hma', rfl⟩ := mview_some hmj
    cases bi with
    | cells c w0 g0 => obtain ⟨⟨rfl, _⟩, _⟩ := hbi; cases hw
    | map es clock =>
      obtain ⟨rfl, hg, _⟩ := hbi a o hk
      have hlv : ∃ b', h.get a' = some b' ∧ b'.live = true := by
        cases bj with
        | cells c w0 g0 => obtain ⟨_, hb⟩ := hbj; obtain ⟨c', wr, g, h1, _⟩ := hb a' o' hk'; exact ⟨_, h1, rfl⟩
        | map es' clock' => obtain ⟨_, h1, _⟩ := hbj a' o' hk'; exact ⟨_, h1, rfl⟩
        | dead => cases hlj
        | _ => exact hbj.elim
      obtain ⟨b', hb', hl'⟩ := hlv
      have := hr.inj a a' _ b' r q q' hg hb' rfl hl' hma hma'
      subst this
      exact hv.2.1 i j a _ _ hk hk' ⟨_, _, hg⟩
    | dead => cases hw
    | _ => exact hbi.elim
  own := fun i b r s hi hw hm => by
    rw [hp_get] at hi
    have hb := hv.2.2 i b hi
    obtain ⟨a, o, q, hk, hma, rfl⟩ := mview_some hm
    cases b with
    | cells c w0 g0 => obtain ⟨⟨rfl, _⟩, _⟩ := hb; cases hw
    | map es clock => obtain ⟨_, hg, _⟩ := hb a o hk; exact hr.own a _ r q hg rfl hma
    | dead => cases hw
    | _ => exact hb.elim
  frz := hr.frz
  nfz := fun i b r s hi hw hm => by
    rw [hp_get] at hi
    have hb := hv.2.2 i b hi
    obtain ⟨a, o, q, hk, hma, rfl⟩ := mview_some hm
    cases b with
    | cells c w0 g0 => obtain ⟨⟨rfl, _⟩, _⟩ := hb; cases hw
    | map es clock => obtain ⟨_, hg, _⟩ := hb a o hk; exact hr.nfz a _ r q hg rfl hma
    | dead => cases hw
    | _ => exact hb.elim
  rng := fun i r s hm => by
    obtain ⟨a, o, q, hk, hma, rfl⟩ := mview_some hm
    exact hr.rng _ _ _ hma
  lt := fun i b hi => by rw [hp_get] at hi; exact (List.getElem?_eq_some_iff.1 hi).1
  dom := fun i hi => by
    rw [mview_at]
    have : vs[i]? = none := List.getElem?_eq_none (Nat.le_trans hv.1 hi)
    rw [this]
structure Sh (vs : Vw) (n0 N k : Nat) (m1 m2 : M) : Prop where
  new : ∀ i, i < k → ∀ p, m1 (n0 + i) = some p → m2 (N + i) = some p
  old : ∀ (i j o r : Nat) (s : Nat × Nat), i < n0 → vs[i]? = some (some (j, o)) → m1 i = some (r, s) → ∃ q : Nat × Nat, m2 j = some (r, q) ∧ s = (q.1 + o, q.2)
  fz : ∀ r p, m1.fz r = some p → m2.fz r = some p
def ShV (vs : Vw) (n0 N k : Nat) (v v' : V) : Prop := ∀ (m1 m2 : M), Sh vs n0 N k m1 m2 → ∀ x, VR m1 v x → VR m2 v' x
def ShL (vs : Vw) (n0 N k : Nat) (l l' : List V) : Prop := l.length = l'.length ∧ ∀ (i : Nat) (v v' : V), l[i]? = some v → l'[i]? = some v' → ShV vs n0 N k v v'
def ShB (vs : Vw) (n0 N k : Nat) (b b' : Blk) : Prop := ∀ (m1 m2 : M), Sh vs n0 N k m1 m2 → ∀ s o, BR m1 s o b → BR m2 s o b'
section
variable {vs : Vw} {n0 N k : Nat}
theorem ShV.bare {v : V} (h : ltV 0 v = true) : ShV vs n0 N k v v := fun m1 m2 hm x hx => hx.of_lt0 hm.fz h
theorem ShV.sl {i o len cap : Nat} {ex : Bool} {b b' : Nat} (hi : i < k) (hb : b = n0 + i) (hb' : b' = N + i) : ShV vs n0 N k (.sl b o len cap ex) (.sl b' o len cap ex) := by
  intro m1 m2 hm x hx
  subst hb; subst hb'
  cases hx with
  | sl h he => exact .sl (hm.new i hi _ h) he
  | sl0 h => exact .sl0 (hm.new i hi _ h)
theorem ShV.ptr {i o : Nat} {b b' : Nat} (hi : i < k) (hb : b = n0 + i) (hb' : b' = N + i) : ShV vs n0 N k (.ptr b o) (.ptr b' o) := by
  intro m1 m2 hm x hx
  subst hb; subst hb'
  cases hx with
  | ptr h => exact .ptr (hm.new i hi _ h)
theorem ShV.map {i : Nat} {b b' : Nat} (hi : i < k) (hb : b = n0 + i) (hb' : b' = N + i) : ShV vs n0 N k (.map b) (.map b') := by
  intro m1 m2 hm x hx
  subst hb; subst hb'
  cases hx with
  | map h => exact .map (hm.new i hi _ h)
theorem ShV.oldS {i j o len cap : Nat} {ex : Bool} (hi : i < n0) (h : vs[i]? = some (some (j, o))) : ShV vs n0 N k (.sl i 0 len cap ex) (.sl j o len cap ex) := by
  intro m1 m2 hm x hx
  cases hx with
  | sl h1 he =>
    obtain ⟨q, h2, h3⟩ := hm.old i j o _ _ hi h h1
    subst h3
    have := VR.sl (o := o) (ex := ex) (len := len) h2 he
    rwa [show q.1 + o = (q.1 + o) + 0 from rfl] at this
  | sl0 h1 =>
    obtain ⟨q, h2, h3⟩ := hm.old i j o _ _ hi h h1
    exact .sl0 h2
theorem ShV.oldM {i j : Nat} (hi : i < n0) (h : vs[i]? = some (some (j, 0))) : ShV vs n0 N k (.map i) (.map j) := by
  intro m1 m2 hm x hx
  cases hx with
  | map h1 =>
    obtain ⟨q, h2, h3⟩ := hm.old i j 0 _ _ hi h h1
    obtain ⟨q1, q2⟩ := q
    simp only [Nat.add_zero, Prod.mk.injEq] at h3
    obtain ⟨rfl, rfl⟩ := h3
    exact .map h2
theorem ShV.old {v d : V} (h : Ca vs v d) : ltV n0 d = true → ShV vs n0 N k d v := by
  induction h with
  | bare hb => intro hl; exact .bare (ltV_bare0 hb)
  | sl hk => intro hl; exact .oldS (by simpa [ltV] using hl) hk
  | map hk => intro hl; exact .oldM (by simpa [ltV] using hl) hk
  | @ptr b o k' i' hk =>
    intro hl m1 m2 hm x hx
    cases hx with
    | ptr h1 =>
      obtain ⟨q, h2, h3⟩ := hm.old _ _ _ _ _ (by simpa [ltV] using hl) hk h1
      subst h3
      have := VR.ptr (o := o + i') h2
      rw [← Nat.add_assoc] at this
      exact this
  | lt0 hb => intro hl; exact .bare hb
  | agg hl h ih =>
    intro hlt m1 m2 hm x hx
    cases hx with
    | agg l1 ha =>
      refine .agg (by rw [hl]; exact l1) (fun i v x hv hx => ?_)
      have hi := (List.getElem?_eq_some_iff.1 hv).1
      have hd : _ := List.getElem?_eq_getElem (l := _) (by rw [← hl]; exact hi)
      exact ih i v _ hv hd (ltL_get (by simpa [ltV] using hlt) i _ hd) m1 m2 hm x (ha i _ x hd hx)
  | fn la _ lb _ iha ihb =>
    intro hlt m1 m2 hm x hx
    have hlt' : _ := hlt
    simp only [ltV, Bool.and_eq_true] at hlt'
    cases hx with
    | fn l1 h1 l2 h2 =>
      refine .fn (by rw [la]; exact l1) (fun i v x hv hx => ?_) (by rw [lb]; exact l2) (fun i v x hv hx => ?_)
      · have hi := (List.getElem?_eq_some_iff.1 hv).1
        have hd : _ := List.getElem?_eq_getElem (l := _) (by rw [← la]; exact hi)
        exact iha i v _ hv hd (ltL_get hlt'.1 i _ hd) m1 m2 hm x (h1 i _ x hd hx)
      · have hi := (List.getElem?_eq_some_iff.1 hv).1
        have hd : _ := List.getElem?_eq_getElem (l := _) (by rw [← lb]; exact hi)
        exact ihb i v _ hv hd (ltL_get hlt'.2 i _ hd) m1 m2 hm x (h2 i _ x hd hx)
theorem ShL.nil : ShL vs n0 N k [] [] := ⟨rfl, fun i v v' h => by simp at h⟩
theorem ShL.cons {v v' : V} {l l' : List V} (h : ShV vs n0 N k v v') (hl : ShL vs n0 N k l l') : ShL vs n0 N k (v :: l) (v' :: l') :=
  ⟨by simp [hl.1], fun i u u' hu hu' => by
    cases i with
    | zero => simp at hu hu'; subst hu; subst hu'; exact h
    | succ i => exact hl.2 i u u' (by simpa using hu) (by simpa using hu')⟩
theorem ShL.vrs {l l' : List V} (h : ShL vs n0 N k l l') {m1 m2 : M} (hm : Sh vs n0 N k m1 m2) {a : Array Value} (hl : l.length = a.size) (ha : ∀ (k : Nat) (v : V) (x : Value), l[k]? = some v → a[k]? = some x → VR m1 v x) :
    l'.length = a.size ∧ ∀ (k : Nat) (v : V) (x : Value), l'[k]? = some v → a[k]? = some x → VR m2 v x := by
  refine ⟨by rw [← h.1]; exact hl, fun i v x hv hx => ?_⟩
  have hi : i < l.length := by rw [h.1]; exact (List.getElem?_eq_some_iff.1 hv).1
  exact h.2 i l[i] v (List.getElem?_eq_getElem hi) hv m1 m2 hm x (ha i _ x (List.getElem?_eq_getElem hi) hx)
theorem ShV.tup {l l' : List V} (h : ShL vs n0 N k l l') : ShV vs n0 N k (.tup l) (.tup l') := by
  intro m1 m2 hm x hx
  cases hx with
  | tup hl ha => obtain ⟨h1, h2⟩ := h.vrs hm hl ha; exact .tup h1 h2
theorem ShV.agg {l l' : List V} (h : ShL vs n0 N k l l') : ShV vs n0 N k (.agg l) (.agg l') := by
  intro m1 m2 hm x hx
  cases hx with
  | agg hl ha => obtain ⟨h1, h2⟩ := h.vrs hm hl ha; exact .agg h1 h2
theorem ShB.cells {c c' : Tr V} {w w' : Bool} {g : Option (Nat × Nat)} (h : ∀ i v', c'.get i = some v' → one v' = true ∧ ∃ v, c.get i = some v ∧ ShV vs n0 N k v v') : ShB vs n0 N k (.cells c w g) (.cells c' w' g) := by
  intro m1 m2 hm s o hb
  obtain ⟨a, e, lo, hi, ho, h1, h2⟩ := hb
  refine ⟨a, e, lo, hi, ho, fun j v hv => ?_, h2⟩
  obtain ⟨h0, u, hu, hs⟩ := h j v hv
  obtain ⟨h3, ⟨x, hx, hvx⟩, h4⟩ := h1 j u hu
  exact ⟨h0, ⟨x, hx, hs m1 m2 hm x hvx⟩, h4⟩
theorem ShB.bare {c : Tr V} {w w' : Bool} {g : Option (Nat × Nat)} (h : ∀ i v, c.get i = some v → bare0 v = true) : ShB vs n0 N k (.cells c w g) (.cells c w' g) :=
  .cells (fun i v hv => ⟨(by have := h i v hv; cases v <;> first | rfl | cases this), v, hv, .bare (ltV_bare0 (h i v hv))⟩)
theorem ShB.map {es : List (Value × V × Nat)} {clock : Nat} (h : ∀ e ∈ es, ltV 0 e.2.1 = true) : ShB vs n0 N k (.map es clock) (.map es clock) := by
  intro m1 m2 hm s o hb
  obtain ⟨hs, a, ho, hln, hc⟩ := hb
  exact ⟨hs, a, ho, hln, fun k e x he hx => let ⟨h1, h2, h3⟩ := hc k e x he hx; ⟨h1, h2, h3.of_lt0 hm.fz (h e (List.mem_of_getElem? he))⟩⟩
end
section
variable {P : Program}
set_option maxHeartbeats 1000000 in
theorem CallOk.of_new {f : FuncId} {argsC : List V} {bs : List Blk} {news : Nat → List Blk} {vC : Nat → V} (hcw : CallW P [] f argsC (hp bs) (RetRO bs news vC)) {h : H} {vs : Vw} (hvw : ViewM h vs bs) {args : List V} (hca : CaL vs args argsC)
    {vR : V} {newsR : List Blk} (hvN : ShV vs bs.length h.n (news bs.length).length (vC bs.length) vR) (hlen : newsR.length = (news bs.length).length)
    (hbN : ∀ (i : Nat) (b : Blk), (news bs.length)[i]? = some b → ∃ b', newsR[i]? = some b' ∧ b'.wr = true ∧ ShB vs bs.length h.n (news bs.length).length b b') :
    CallOk P f args h vR (addBs h newsR) := by
  intro base m w xs hr hB hvs
  have hrC := hvw.hr hr
  have hvsC := hca.vrs hvs
  obtain ⟨hfn, hcalls⟩ := hcw.out base _ w xs hrC hB hvsC
  refine ⟨hfn, CallsIn.mono hcalls ?_⟩
  rintro e w' ⟨v, h', mC', x, ⟨rl, hv, hlv, hnd, hno, hold⟩, rfl, hsw, hvx⟩
  obtain ⟨hnl, hnb⟩ := newsOk_spec hno
  have hold' := oldOk_spec hold
  have hstay : ∀ i p, mview vs m i = some p → mC' i = some p := fun i p hp => SW.stay hsw hrC i (fun hc => by cases hc) p hp
  -- the places behind
  let m' : M := ⟨fun i => if i < h.n then m i else (rl[i - h.n]?).bind mC'.pl, mC'.fz⟩
  have hm'old : ∀ i p, m i = some p → m' i = some p := by
    intro i p hp
    have hlt : i < h.n := Nat.lt_of_not_le (fun hc => by rw [hr.dom i hc] at hp; cases hp)
    show (if i < h.n then m i else _) = _
    rw [if_pos hlt]; exact hp
  have hm'new : ∀ i r, rl[i]? = some r → m' (h.n + i) = mC' r := by
    intro i r hi
    show (if h.n + i < h.n then m (h.n + i) else (rl[h.n + i - h.n]?).bind mC'.pl) = _
    rw [if_neg (by omega), Nat.add_sub_cancel_left, hi]; rfl
  have hm'inv : ∀ i p, h.n ≤ i → m' i = some p → ∃ r, rl[i - h.n]? = some r ∧ mC' r = some p := by
    intro i p hi hp
    have hp' : (if i < h.n then m i else (rl[i - h.n]?).bind mC'.pl) = some p := hp
    rw [if_neg (by omega)] at hp'
    cases hq : rl[i - h.n]? with
    | none => rw [hq] at hp'; cases hp'
    | some r => rw [hq] at hp'; exact ⟨r, rfl, hp'⟩
  have hsh : Sh vs bs.length h.n (news bs.length).length ⟨fun i => if i < bs.length + (news bs.length).length then mC' (rhoN bs.length rl i) else none, mC'.fz⟩ m' := by
    refine ⟨?_, fun i j o r s hi hv hp => ?_, fun _ _ h => h⟩
    rotate_left
    · dsimp only at hp
      rw [if_pos (by omega)] at hp
      unfold rhoN at hp
      rw [show Nat.blt i bs.length = true from by rw [Nat.blt_eq]; exact hi] at hp
      dsimp only at hp
      rw [hsw.same i (by rw [hp_n]; exact hi) (fun hc => by cases hc)] at hp
      obtain ⟨j', o', q, h1, h2, h3⟩ := mview_some hp
      rw [hv] at h1
      cases h1
      exact ⟨q, hm'old _ _ h2, h3⟩
    intro i hi p hp
    dsimp only at hp
    rw [if_pos (by omega)] at hp
    unfold rhoN at hp
    rw [show Nat.blt (bs.length + i) bs.length = false from by rw [← Bool.not_eq_true, Nat.blt_eq]; omega] at hp
    dsimp only at hp
    have hlt : i < rl.length := by omega
    rw [hm'new _ rl[i] (List.getElem?_eq_getElem hlt)]
    rw [Nat.add_sub_cancel_left, List.getD_eq_getElem?_getD, List.getElem?_eq_getElem hlt] at hp
    exact hp
  have hvr : VR m' vR x := by
    subst hv
    exact hvN _ m' hsh x (VR.ren (m := mC') (m1 := ⟨fun i => if i < bs.length + (news bs.length).length then mC' (rhoN bs.length rl i) else none, mC'.fz⟩) ⟨fun i hi => if_pos hi, fun _ _ h => h⟩ _ hlv hvx)
  -- a new block's row is new
  have hfreshRow : ∀ i r p, rl[i]? = some r → mC' r = some p → i < (news bs.length).length → w.heap.size ≤ p.1 := by
    intro i r p hir hmr hil
    obtain ⟨r', b', h1, h2, h3, _, _, h4⟩ := hnb i _ (List.getElem?_eq_getElem hil)
    rw [hir] at h1; cases h1
    obtain ⟨p1, p2⟩ := p
    rcases hsw.fresh r b' p1 p2 h2 h3 hmr with hlt | ⟨j, bj, s', hj, hwj, hmj⟩
    · exact hlt
    · rw [hp_get] at hj
      have hjl : j < bs.length := (List.getElem?_eq_some_iff.1 hj).1
      have h5 := hold' j bj hj hwj
      rw [Nat.zero_add] at h5
      have := hsw.hr.inj r j b' bj p1 p2 s' h2 h5 h3 (Blk.live_of_wr hwj) hmr (hstay _ _ hmj)
      omega
  have hlt : ∀ i b, h.get i = some b → i < h.n := hr.lt
  have hget := fun i => addBs_get newsR h i hlt
  have hnewget : ∀ i b, h.n ≤ i → (addBs h newsR).get i = some b → newsR[i - h.n]? = some b := by
    intro i b hi hb
    rw [hget, if_neg (by omega)] at hb; exact hb
  -- old blocks stand to the world behind
  have hblkOld : ∀ i b r s, i < h.n → h.get i = some b → m i = some (r, s) → BR m' s (w'.heap[r]?) b := by
    intro i b r s hi hb hm
    cases hlive : b.live with
    | false => cases b <;> first | trivial | cases hlive
    | true =>
      have hrlt := hr.rng i r s hm
      by_cases hex : ∃ j bj sj, (hp bs).get j = some bj ∧ bj.wr = true ∧ mview vs m j = some (r, sj)
      · obtain ⟨j, bj, sj, hj, hwj, hmj⟩ := hex
        rw [hp_get] at hj
        have hvb := hvw.2.2 j bj hj
        obtain ⟨j', o, q, hk, hmj', rfl⟩ := mview_some hmj
        cases bj with
        | cells c w0 g0 => obtain ⟨⟨rfl, _⟩, _⟩ := hvb; cases hwj
        | map es clock =>
          obtain ⟨rfl, hg, hl⟩ := hvb j' o hk
          have hji : j' = i := hr.inj j' i _ b r q s hg hb rfl hlive hmj' hm
          subst hji
          rw [hb] at hg; cases hg
          rw [hm] at hmj'; cases hmj'
          have h5 := hold' j _ hj hwj
          rw [Nat.zero_add] at h5
          obtain ⟨hs, a, ho, hl', hc⟩ := hsw.hr.blk j _ r _ h5 (hstay _ _ hmj)
          exact ⟨hs, a, ho, hl', fun k e y hke hy => let ⟨g1, g2, g3⟩ := hc k e y hke hy; ⟨g1, g2, VR.of_lt0 (m := mC') (m' := m') (fun _ _ h => h) (hl e (List.mem_of_getElem? hke)) g3⟩⟩
        | dead => cases hwj
        | _ => exact hvb.elim
      · rw [hsw.frame r hrlt (fun j bj sj hj hwj hmj => hex ⟨j, bj, sj, hj, hwj, hmj⟩)]
        exact (hr.blk i b r s hb hm).mono ⟨hm'old, hsw.fzx⟩
  refine ⟨m', x, rfl, ?_, hvr⟩
  exact {
    ext := ⟨hm'old, hsw.fzx⟩
    fzn := fun r p hp => by
      rcases hsw.fzn r p hp with h1 | h1 | ⟨j, bj, sj, hj, hwj, hmj⟩
      · exact .inl h1
      · exact .inr (.inl h1)
      · rw [hp_get] at hj
        have hvb := hvw.2.2 j bj hj
        obtain ⟨j', o, q, hk, hmj', rfl⟩ := mview_some hmj
        cases bj with
        | cells c w0 g0 => obtain ⟨⟨rfl, _⟩, _⟩ := hvb; cases hwj
        | map es clock =>
          obtain ⟨rfl, hg, hl⟩ := hvb j' o hk
          exact .inr (.inr ⟨j', _, q, hg, rfl, hmj'⟩)
        | dead => cases hwj
        | _ => exact hvb.elim
    new := fun i p hp hno => by
      rw [addBs_n, hlen]
      by_cases hi : i < h.n
      · have hp' : (if i < h.n then m i else _) = some p := hp
        rw [if_pos hi, hno] at hp'; cases hp'
      · obtain ⟨r, h1, _⟩ := hm'inv i p (by omega) hp
        have := (List.getElem?_eq_some_iff.1 h1).1
        omega
    hr := {
      blk := fun i b r s hi hm => by
        by_cases hin : i < h.n
        · rw [hget, if_pos hin] at hi
          have hm2 : (if i < h.n then m i else _) = some (r, s) := hm
          rw [if_pos hin] at hm2
          exact hblkOld i b r s hin hi hm2
        · have h1 := hnewget i b (by omega) hi
          obtain ⟨r0, h2, h3⟩ := hm'inv i (r, s) (by omega) hm
          have hil : i - h.n < (news bs.length).length := by have := (List.getElem?_eq_some_iff.1 h1).1; omega
          obtain ⟨b', h4, _, h5⟩ := hbN _ _ (List.getElem?_eq_getElem hil)
          rw [h1] at h4; cases h4
          obtain ⟨r1, b1, k1, k2, k3, k4, k5, _⟩ := hnb _ _ (List.getElem?_eq_getElem hil)
          rw [h2] at k1; cases k1
          have hbr := hsw.hr.blk r0 b1 r s k2 h3
          exact h5 _ m' hsh s _ (k4.BR k5 (m1 := ⟨fun i => if i < bs.length + (news bs.length).length then mC' (rhoN bs.length rl i) else none, mC'.fz⟩) ⟨fun i hi => if_pos hi, fun _ _ h => h⟩ hbr)
      inj := fun i j bi bj r s s' hi hj hw hlj hmi hmj => by
        by_cases hin : i < h.n
        · have hmi2 : (if i < h.n then m i else _) = some (r, s) := hmi
          rw [if_pos hin] at hmi2
          by_cases hjn : j < h.n
          · have hmj2 : (if j < h.n then m j else _) = some (r, s') := hmj
            rw [if_pos hjn] at hmj2
            rw [hget, if_pos hin] at hi
            rw [hget, if_pos hjn] at hj
            exact hr.inj i j bi bj r s s' hi hj hw hlj hmi2 hmj2
          · obtain ⟨r0, h2, h3⟩ := hm'inv j (r, s') (by omega) hmj
            have hil : j - h.n < (news bs.length).length := by have := (List.getElem?_eq_some_iff.1 h2).1; omega
            have := hfreshRow _ r0 _ h2 h3 hil
            have := hr.rng i r s hmi2
            dsimp only at *
            omega
        · obtain ⟨r0, h2, h3⟩ := hm'inv i (r, s) (by omega) hmi
          have hil : i - h.n < (news bs.length).length := by have := (List.getElem?_eq_some_iff.1 h2).1; omega
          have hrow := hfreshRow _ r0 _ h2 h3 hil
          by_cases hjn : j < h.n
          · have hmj2 : (if j < h.n then m j else _) = some (r, s') := hmj
            rw [if_pos hjn] at hmj2
            have := hr.rng j r s' hmj2
            dsimp only at *
            omega
          · obtain ⟨r1, g2, g3⟩ := hm'inv j (r, s') (by omega) hmj
            have hjl : j - h.n < (news bs.length).length := by have := (List.getElem?_eq_some_iff.1 g2).1; omega
            obtain ⟨ra, b1, k1, k2, k3, _, _, _⟩ := hnb _ _ (List.getElem?_eq_getElem hil)
            rw [h2] at k1; cases k1
            obtain ⟨rb, b2, l1, l2, l3, _, _, _⟩ := hnb _ _ (List.getElem?_eq_getElem hjl)
            rw [g2] at l1; cases l1
            have he := hsw.hr.inj r0 r1 b1 b2 r s s' k2 l2 k3 (Blk.live_of_wr l3) h3 g3
            subst he
            have := nodupB_spec hnd _ _ _ h2 g2
            omega
      own := fun i b r s hi hw hm => by
        by_cases hin : i < h.n
        · have hm2 : (if i < h.n then m i else _) = some (r, s) := hm
          rw [if_pos hin] at hm2
          rw [hget, if_pos hin] at hi
          exact hr.own i b r s hi hw hm2
        · obtain ⟨r0, h2, h3⟩ := hm'inv i (r, s) (by omega) hm
          have hil : i - h.n < (news bs.length).length := by have := (List.getElem?_eq_some_iff.1 h2).1; omega
          have := hfreshRow _ r0 _ h2 h3 hil
          dsimp only at this
          omega
      frz := hsw.hr.frz
      nfz := fun i b r s hi hw hm => by
        cases hz : mC'.fz r with
        | none => rfl
        | some p =>
          exfalso
          by_cases hin : i < h.n
          · have hm2 : (if i < h.n then m i else _) = some (r, s) := hm
            rw [if_pos hin] at hm2
            rw [hget, if_pos hin] at hi
            rcases hsw.fzn r p hz with h1 | h1 | ⟨j, bj, sj, hj, hwj, hmj⟩
            · have h2 := hr.nfz i b r s hi hw hm2
              have h1' : m.fz r = some p := h1
              rw [h1'] at h2; cases h2
            · have := hr.rng i r s hm2; omega
            · have hj0 := hj
              rw [hp_get] at hj
              have hvb := hvw.2.2 j bj hj
              cases bj with
              | cells c w0 g0 => obtain ⟨⟨rfl, _⟩, _⟩ := hvb; cases hwj
              | map es clock =>
                have h5 := hold' j _ hj hwj
                rw [Nat.zero_add] at h5
                have h6 := hsw.hr.nfz j _ r sj h5 rfl (hstay _ _ hmj)
                rw [hz] at h6; cases h6
              | dead => cases hwj
              | _ => exact hvb.elim
          · obtain ⟨r0, h2, h3⟩ := hm'inv i (r, s) (by omega) hm
            have hil : i - h.n < (news bs.length).length := by have := (List.getElem?_eq_some_iff.1 h2).1; omega
            obtain ⟨ra, b1, k1, k2, k3, _, _, _⟩ := hnb _ _ (List.getElem?_eq_getElem hil)
            rw [h2] at k1; cases k1
            have := hsw.hr.nfz r0 b1 r s k2 k3 h3
            rw [hz] at this; cases this
      rng := fun i r s hm => by
        by_cases hin : i < h.n
        · have hm2 : (if i < h.n then m i else _) = some (r, s) := hm
          rw [if_pos hin] at hm2
          exact Nat.lt_of_lt_of_le (hr.rng i r s hm2) hsw.size
        · obtain ⟨r0, h2, h3⟩ := hm'inv i (r, s) (by omega) hm
          exact hsw.hr.rng r0 r s h3
      lt := fun i b hi => by
        rw [addBs_n]
        by_cases hin : i < h.n
        · omega
        · have h1 := hnewget i b (by omega) hi
          have := (List.getElem?_eq_some_iff.1 h1).1
          omega
      dom := fun i hi => by
        rw [addBs_n] at hi
        show (if i < h.n then m i else (rl[i - h.n]?).bind mC'.pl) = none
        rw [if_neg (by omega), List.getElem?_eq_none (by omega)]; rfl }
    n := by rw [addBs_n]; omega
    os := hsw.os
    tape := hsw.tape
    output := hsw.output
    size := hsw.size
    frame := fun r hr' hno => hsw.frame r hr' (fun j bj sj hj hwj hmj => by
      rw [hp_get] at hj
      have hvb := hvw.2.2 j bj hj
      obtain ⟨j', o, q, hk, hmj', rfl⟩ := mview_some hmj
      cases bj with
      | cells c w0 g0 => obtain ⟨⟨rfl, _⟩, _⟩ := hvb; cases hwj
      | map es clock => obtain ⟨_, hg, _⟩ := hvb j' o hk; exact hno j' _ q hg rfl hmj'
      | dead => cases hwj
      | _ => exact hvb.elim)
    fresh := fun i b r s hi hw hm => by
      by_cases hin : i < h.n
      · have hm2 : (if i < h.n then m i else _) = some (r, s) := hm
        rw [if_pos hin] at hm2
        rw [hget, if_pos hin] at hi
        exact .inr ⟨i, b, s, hi, hw, hm2⟩
      · obtain ⟨r0, h2, h3⟩ := hm'inv i (r, s) (by omega) hm
        have hil : i - h.n < (news bs.length).length := by have := (List.getElem?_eq_some_iff.1 h2).1; omega
        exact .inl (hfreshRow _ r0 _ h2 h3 hil)
    low := fun i hi _ => by rw [hget, if_pos hi]
    lowle := by rw [addBs_low]; exact Nat.le_refl _
    keep := fun i hi _ => by rw [hget, if_pos hi] }
end
end Go.As
/- Keys of maps; slices that grow; cells of lists. -/
namespace Go.As
section
variable {P : Program}
theorem pureP_bind_eq {α β : Type} (s : Sem α) (f : α → Sem β) : pureP P (s >>= f) = match pureP P s with | some a => pureP P (f a) | none => none := by
  show pureP P (s.bind f) = _
  induction s with
  | pure a => rfl
  | program k ih => exact ih P
  | _ => rfl
theorem pureP_pure {α : Type} (a : α) : pureP P (pure a : Sem α) = some a := rfl
theorem pureP_und {t : TypeId} {d : TypeDesc} (h : P.underlying t = some d) : pureP P (underlying t) = some d := by
  unfold underlying
  rw [pureP_bind_eq]
  show (match some P with | some a => pureP P (match a.underlying t with | some d => pure d | none => stuck _) | none => none) = _
  dsimp only
  rw [h]; rfl
theorem pureP_info {t : TypeId} {i : TypeInfo} (h : P.info? t = some i) : pureP P (typeInfo t) = some i := by
  unfold typeInfo
  rw [pureP_bind_eq]
  show (match some P with | some a => pureP P (match a.info? t with | some d => pure d | none => stuck _) | none => none) = _
  dsimp only
  rw [h]; rfl
theorem pureP_size {t : TypeId} {n : Nat} (h : sizeOf? P t = some n) : pureP P (sizeOf t) = some n := by
  unfold sizeOf? at h
  split at h
  · rename_i i hi
    cases h
    unfold sizeOf
    rw [pureP_bind_eq, pureP_info hi]; rfl
  · cases h
theorem pure_equal_int {t : TypeId} {k : IntKind} (hu : P.underlying t = some (.int k)) (d : Nat) (a b : Int) : pureP P (Op.equalIn (d + 1) t (.int .i64 a) (.int .i64 b)) = some (a == b) := by
  unfold Op.equalIn
  rw [pureP_bind_eq, pureP_und hu]
  simp only [if_true]
  rfl
theorem forIn_all {α : Type} (l : List α) (f : α → Sem Bool) (g : α → Bool) (h : ∀ x ∈ l, pureP P (f x) = some (g x)) (body : α → Option Bool × Unit → Sem (ForInStep (Option Bool × Unit)))
    (hb : ∀ x ∈ l, ∀ r, pureP P (body x r) = match pureP P (f x) with | some true => some (.yield (none, ())) | some false => some (.done (some false, ())) | none => none) :
    pureP P (forIn l ((none, ()) : Option Bool × Unit) body) = some (if l.all g = true then (none, ()) else (some false, ())) := by
  induction l with
  | nil => rfl
  | cons x l ih =>
    rw [List.forIn_cons, pureP_bind_eq, hb x (by simp), h x (by simp)]
    cases hg : g x with
    | true =>
      dsimp only
      rw [ih (fun y hy => h y (by simp [hy])) (fun y hy => hb y (by simp [hy]))]
      simp [hg]
    | false => simp [hg, pureP_pure]
theorem pure_part {t : TypeId} {cs : Array Value} {off : Nat} {v : Value} (ha : isAgg? P t = some false) (hv : cs[off]? = some v) : pureP P (part t cs off) = some v := by
  unfold part
  rw [pureP_bind_eq]
  have : pureP P (isAgg t) = some false := by
    unfold isAgg? at ha
    unfold isAgg
    split at ha
    · cases ha
    · cases ha
    · rename_i d hd h1 h2
      rw [pureP_bind_eq, pureP_und h2]
      dsimp only
      cases d <;> first | rfl | (exfalso; exact hd _ rfl) | (exfalso; exact h1 _ _ rfl)
    · cases ha
  rw [this]
  simp only [Bool.false_eq_true, if_false, hv]
  rfl
def intsV (l : List Int) : Value := .agg (l.map (Value.int .i64)).toArray
structure KeysOk {K : Type} [DecidableEq K] (P : Program) (kt : TypeId) (κ : K → Value) : Prop where
  chk : ∀ em k, pureP P (Instr.checkKey em 10000 kt (κ k)) = some ()
  eq : (∃ d, P.underlying kt = some d ∧ ∀ a b, Instr.sameNow d (κ a) (κ b) = some (decide (a = b))) ∨
    (∃ d, P.underlying kt = some d ∧ (∀ a b, Instr.sameNow d (κ a) (κ b) = none) ∧ ∀ a b, pureP P (Op.equal kt (κ a) (κ b)) = some (decide (a = b)))
section
variable {K : Type} [DecidableEq K] {κ : K → Value}
theorem findNow_ok {d : TypeDesc} (h : ∀ a b, Instr.sameNow d (κ a) (κ b) = some (decide (a = b))) (k : K) : ∀ (ks : List K) (es : List MapEntry) (i : Nat), es.map (·.key) = ks.map κ →
    ∃ r, Instr.findNow d (κ k) es i = some r ∧ r.map (·.1) = (ks.findIdx? fun a => decide (k = a)).map (· + i)
  | [], [], i, _ => ⟨none, rfl, rfl⟩
  | [], _ :: _, i, h => by simp at h
  | _ :: _, [], i, h => by simp at h
  | a :: ks, e :: es, i, he => by
    simp only [List.map_cons, List.cons.injEq] at he
    obtain ⟨r, h1, h2⟩ := findNow_ok h k ks es (i + 1) he.2
    unfold Instr.findNow
    rw [he.1, h k a, List.findIdx?_cons]
    by_cases hke : k = a
    · simp [hke]
    · rw [decide_eq_false hke]
      refine ⟨r, h1, ?_⟩
      rw [h2]
      cases ks.findIdx? (fun a => decide (k = a)) <;> simp <;> omega
theorem findAsking_ok {kt : TypeId} (h : ∀ a b, pureP P (Op.equal kt (κ a) (κ b)) = some (decide (a = b))) (k : K) : ∀ (ks : List K) (es : List MapEntry) (i : Nat), es.map (·.key) = ks.map κ →
    ∃ r, pureP P (Instr.findAsking kt (κ k) es i) = some r ∧ r.map (·.1) = (ks.findIdx? fun a => decide (k = a)).map (· + i)
  | [], [], i, _ => ⟨none, rfl, rfl⟩
  | [], _ :: _, i, h => by simp at h
  | _ :: _, [], i, h => by simp at h
  | a :: ks, e :: es, i, he => by
    simp only [List.map_cons, List.cons.injEq] at he
    obtain ⟨r, h1, h2⟩ := findAsking_ok h k ks es (i + 1) he.2
    unfold Instr.findAsking
    rw [pureP_bind_eq, he.1, h k a, List.findIdx?_cons]
    by_cases hke : k = a
    · simp [hke, pureP_pure]
    · rw [decide_eq_false hke]
      refine ⟨r, by simpa using h1, ?_⟩
      rw [h2]
      cases ks.findIdx? (fun a => decide (k = a)) <;> simp <;> omega
theorem findAt_ok {kt : TypeId} (hK : KeysOk P kt κ) (em : Bool) (k : K) {es : List (Value × V × Nat)} (ks : List K) (he : es.map (·.1) = ks.map κ) : findAt P em kt (κ k) es = some (ks.findIdx? fun a => decide (k = a)) := by
  unfold findAt
  rw [hK.chk em k]
  dsimp only
  have hko : (keysOf es).map (·.key) = ks.map κ := by
    rw [← he]; unfold keysOf; rw [List.map_map]; rfl
  have hfin : ∀ r, pureP P (Instr.findKey kt (κ k) (keysOf es)) = some r → r.map (·.1) = ks.findIdx? (fun a => decide (k = a)) → (match pureP P (Instr.findKey kt (κ k) (keysOf es)) with
      | some (some (j, _)) => some (some j)
      | some none => some none
      | none => none) = some (ks.findIdx? fun a => decide (k = a)) := by
    intro r h1 h2
    rw [h1, ← h2]
    cases r <;> rfl
  rcases hK.eq with ⟨d, hu, hs⟩ | ⟨d, hu, hn, hs⟩
  · obtain ⟨r, h1, h2⟩ := findNow_ok hs k ks (keysOf es) 0 hko
    refine hfin r ?_ (by rw [h2]; simp)
    unfold Instr.findKey
    rw [pureP_bind_eq, pureP_und hu]
    dsimp only
    rw [h1]; rfl
  · cases ks with
    | nil =>
      have : keysOf es = [] := by simpa using hko
      refine hfin none ?_ (by simp)
      unfold Instr.findKey
      rw [pureP_bind_eq, pureP_und hu, this]
      rfl
    | cons a ks =>
      obtain ⟨r, h1, h2⟩ := findAsking_ok hs k (a :: ks) (keysOf es) 0 hko
      refine hfin r ?_ (by rw [h2]; simp)
      unfold Instr.findKey
      rw [pureP_bind_eq, pureP_und hu]
      dsimp only
      have hnone : Instr.findNow d (κ k) (keysOf es) 0 = none := by
        cases hes : keysOf es with
        | nil => rw [hes] at hko; simp at hko
        | cons e l =>
          rw [hes] at hko
          simp only [List.map_cons, List.cons.injEq] at hko
          unfold Instr.findNow
          rw [hko.1, hn k a]
      rw [hnone]
      exact h1
end
end
theorem getN_of {c : Tr V} : ∀ {l : List V} {o : Nat}, (∀ i v, l[i]? = some v → c.get (o + i) = some v) → getN c l.length o = some l
  | [], o, _ => rfl
  | v :: l, o, h => by
    show (match c.get o with
      | some v => (match getN c l.length (o + 1) with | some l => some (v :: l) | none => none)
      | none => none) = _
    have h0 := h 0 v rfl
    rw [Nat.add_zero] at h0
    rw [h0, getN_of (l := l) (o := o + 1) (fun i u hi => by have := h (i + 1) u (by simpa using hi); rwa [show o + 1 + i = o + (i + 1) from by omega])]
theorem getN_ofL (l : List V) : getN (ofL l 0) l.length 0 = some l := getN_of (fun i v h => by rw [Nat.zero_add]; exact get_ofL0 h)
theorem getN_ofL' {l : List V} {n : Nat} (h : l.length = n) : getN (ofL l 0) n 0 = some l := by subst h; exact getN_ofL l
theorem ltB_ofL {n o : Nat} {l : List V} {w : Bool} {g : Option (Nat × Nat)} (h : ∀ v ∈ l, ltV n v = true) : ltB n (.cells (ofL l o) w g) := fun k v hv => by
  rw [get_ofL] at hv; split at hv
  · exact h v (List.mem_of_getElem? hv)
  · cases hv
theorem ltB_ofLb {n o : Nat} {l : List V} {w : Bool} {g : Option (Nat × Nat)} (h : ∀ v ∈ l, bare0 v = true) : ltB n (.cells (ofL l o) w g) := ltB_ofL (fun v hv => ltV_bare0 (h v hv))
def allT (p : V → Bool) : Tr V → Bool
  | .leaf => true
  | .node l a r => allT p l && (match a with | some v => p v | none => true) && allT p r
theorem allT_get {p : V → Bool} : ∀ {t : Tr V}, allT p t = true → ∀ (i : Nat) (v : V), t.get i = some v → p v = true := by
  intro t
  induction t with
  | leaf => intro _ i v h; rw [Tr.get_leaf] at h; cases h
  | node l a r ihl ihr =>
    intro h i v hv
    simp only [allT, Bool.and_eq_true] at h
    obtain ⟨⟨h1, h2⟩, h3⟩ := h
    have hv' : @Bool.rec (fun _ => Option V) (@Bool.rec (fun _ => Option V) (r.get (Nat.sub (Nat.div i 2) 1)) (l.get (Nat.div i 2)) (Nat.beq (Nat.mod i 2) 1)) a (Nat.beq i 0) = some v := hv
    cases hb : Nat.beq i 0 with
    | true => rw [hb] at hv'; dsimp only at hv'; subst hv'; exact h2
    | false =>
      rw [hb] at hv'
      cases hb2 : Nat.beq (Nat.mod i 2) 1 with
      | true => rw [hb2] at hv'; exact ihl h1 _ v hv'
      | false => rw [hb2] at hv'; exact ihr h3 _ v hv'
theorem ltB_all {n : Nat} {c : Tr V} {w : Bool} {g : Option (Nat × Nat)} (h : allT (ltV n) c = true) : ltB n (.cells c w g) := fun k v hv => allT_get h k v hv
theorem ltB_loop {n : Nat} {L : Lp} (h1 : Nat.blt L.defers n = true) (h : allT (ltV n) L.tmps = true) : ltB n (.loop L) := ⟨by rw [Nat.blt_eq] at h1; exact h1, fun k v hv => allT_get h k v hv⟩
theorem SubQ.bare {ρ : Nat → Nat} {c c' : Tr V} {w w' : Bool} {g g' : Option (Nat × Nat)} (hc : ∀ k v, c.get k = some v → c'.get k = some v ∧ bare0 v = true) (hw : w = true → w' = true) (hg : g = none ∨ g = g') : SubQ ρ (.cells c w g) (.cells c' w' g') :=
  .cells (fun k v h => by rw [renV_bare0 (hc k v h).2]; exact (hc k v h).1) hw hg
theorem SubQ.ofL {ρ : Nat → Nat} {l l' : List V} {w : Bool} {g g' : Option (Nat × Nat)} (hl : l = l') (hb : ∀ v ∈ l, bare0 v = true) (hg : g = none ∨ g = g') : SubQ ρ (.cells (As.ofL l 0) w g) (.cells (As.ofL l' 0) w g') := by
  subst hl
  refine .bare (fun k v h => ⟨h, ?_⟩) id hg
  rw [get_ofL] at h
  split at h
  · exact hb v (List.mem_of_getElem? h)
  · cases h
theorem app_own {sz : Nat} {h : H} {n len b : Nat} {r L : List V} {K : V → H → Prop} (hg : h.get b = some (.cells (ofL L 0) true (some (sz, len * sz)))) (hL : L.length = len * sz) (ho : L.all one = true) (hn : 0 < n) (hs : len + n ≤ 2 ^ 20)
    (hK : newP (h.put b .dead) (.cells (ofL (L ++ r) 0) true (some (sz, (len + n) * sz))) fun N h' => K (.sl N 0 (len + n) (len + n) false) h') : som (appendTo sz h n r (.sl b 0 len len false)) fun q => K q.1 q.2 := by
  rw [newP_eq] at hK
  refine som_mk (a := (.sl (h.put b .dead).n 0 (len + n) (len + n) false, (h.put b .dead).new (.cells (ofL (L ++ r) 0) true (some (sz, (len + n) * sz))))) ?_ hK
  unfold appendTo
  simp only [hg]
  rw [if_neg (by omega), if_pos hs, getN_ofL' hL]
  simp only [ho, if_true]
  rw [if_pos ⟨by simp, trivial⟩]
  rfl
theorem app_copy {sz : Nat} {h : H} {n len b o : Nat} {r L : List V} {c : Tr V} {w : Bool} {g : Option (Nat × Nat)} {K : V → H → Prop} (hg : h.get b = some (.cells c w g)) (hc : getN c (len * sz) o = some L) (ho : L.all one = true) (hn : 0 < n) (hs : len + n ≤ 2 ^ 20)
    (hK : newP h (.cells (ofL (L ++ r) 0) true (some (sz, (len + n) * sz))) fun N h' => K (.sl N 0 (len + n) (len + n) false) h') : som (appendTo sz h n r (.sl b o len len true)) fun q => K q.1 q.2 := by
  rw [newP_eq] at hK
  refine som_mk (a := (.sl h.n 0 (len + n) (len + n) false, h.new (.cells (ofL (L ++ r) 0) true (some (sz, (len + n) * sz))))) ?_ hK
  unfold appendTo
  simp only [hg]
  rw [if_neg (by omega), if_pos hs, hc]
  simp only [ho, if_true]
end Go.As
/- Contracts. -/
namespace Go.As
theorem CaL.lt0 {vs : Vw} : ∀ {l : List V}, ltL 0 l = true → CaL vs l l
  | [], _ => .nil
  | v :: l, h => by
    simp only [ltL, Bool.and_eq_true] at h
    exact .cons (.lt0 h.1) (CaL.lt0 h.2)
section
variable {P : Program}
theorem CallW.of_new {f : FuncId} {args : List V} {h : H} {vC : Nat → V} {news : Nat → List Blk} {K : V → H → Prop} {X : List Nat} (hc : CallOk P f args h (vC h.n) (addBs h (news h.n))) (hK : addNP h news fun N h' => K (vC N) h') : CallW P X f args h K :=
  .of_ok hc (by rw [addNP_eq] at hK; exact hK)
theorem ex_ok {f : FuncId} {args : List V} {h : H} {v : V} {h' : H} {K : V → H → Prop} (hc : CallOk P f args h v h') (hK : K v h') : ∃ v h', CallOk P f args h v h' ∧ K v h' := ⟨v, h', hc, hK⟩
theorem grd_get {c : Tr V} {o : Nat} {K : V → Prop} (h : som (c.get o) K) : som (c.get o) K := h
theorem grd_putN {c : Tr V} {o : Nat} {l : List V} {K : Tr V → Prop} (h : som (putN l c o) K) : som (putN l c o) K := h
theorem grd_slow {op : BinOp} {t : TypeId} {x y : Operand} {a b : V} {K : V → Prop} (h : som (slow P op t x y a b) K) : som (slow P op t x y a b) K := h
theorem grd_part {t : TypeId} {cs : List V} {o : Nat} {K : V → Prop} (h : som (part? P t cs o) K) : som (part? P t cs o) K := h
theorem grd_and {p q : Prop} (h : p ∧ q) : p ∧ q := h
theorem grd_ex {α : Type} {p : α → Prop} (h : ∃ x, p x) : ∃ x, p x := h
theorem CallOk.run {f : FuncId} {fn : Func} {c : Code} (hfn : P.funcs[f]? = some fn) (hb : fn.body = some c) (hname : (fn.name == "runtime.NumGoroutine") = false) {args argsC : List V} {h : H} {bs : List Blk} {v : V} (hnt : argsC.length ≤ fn.ntmps) (vs : Vw)
    (hca : CaL vs args argsC) (hvw : ViewM h vs bs) (hv : ltV 0 v = true) (hwp : WpR P bs.length [] none c ⟨ofL argsC 0, fn.ntmps, [], hp bs⟩ (FinK P fn (RetRO bs (fun _ => []) (fun _ => v)))) : CallOk P f args h v h :=
  CallOk.of_new (vC := fun _ => v) (news := fun _ => []) (CallW.inline hfn hb hname hnt hwp) hvw hca (.bare hv) rfl (fun i b hi => by simp at hi)
theorem CallOk.run0 {f : FuncId} {fn : Func} {c : Code} (hfn : P.funcs[f]? = some fn) (hb : fn.body = some c) (hname : (fn.name == "runtime.NumGoroutine") = false) {args : List V} {h : H} {v : V} (hnt : Nat.ble args.length fn.ntmps = true) (ha : ltL 0 args = true) (hv : ltV 0 v = true)
    (hwp : WpR P 0 [] none c ⟨ofL args 0, fn.ntmps, [], hp []⟩ (FinK P fn (RetRO [] (fun _ => []) (fun _ => v)))) : CallOk P f args h v h :=
  CallOk.of_new (bs := []) (vC := fun _ => v) (news := fun _ => []) (vs := []) (CallW.inline hfn hb hname (Nat.le_of_ble_eq_true hnt) hwp)
    ⟨Nat.le_refl _, fun k k' j o o' hk => by simp at hk, fun k b hk => by simp at hk⟩ (CaL.lt0 ha) (.bare hv) rfl (fun i b hi => by simp at hi)
theorem CallOk.runN {f : FuncId} {fn : Func} {c : Code} (hfn : P.funcs[f]? = some fn) (hb : fn.body = some c) (hname : (fn.name == "runtime.NumGoroutine") = false) {args argsC : List V} {h : H} {bs : List Blk} (vC : Nat → V) (news : Nat → List Blk) (hnt : argsC.length ≤ fn.ntmps) (vs : Vw)
    (hca : CaL vs args argsC) (hvw : ViewM h vs bs) {vR : V} {newsR : List Blk} (hvN : ShV vs bs.length h.n (news bs.length).length (vC bs.length) vR) (hlen : newsR.length = (news bs.length).length)
    (hbN : ∀ (i : Nat) (b : Blk), (news bs.length)[i]? = some b → ∃ b', newsR[i]? = some b' ∧ b'.wr = true ∧ ShB vs bs.length h.n (news bs.length).length b b')
    (hwp : WpR P bs.length [] none c ⟨ofL argsC 0, fn.ntmps, [], hp bs⟩ (FinK P fn (RetRO bs news vC))) : CallOk P f args h vR (addBs h newsR) :=
  CallOk.of_new (CallW.inline hfn hb hname hnt hwp) hvw hca hvN hlen hbN
theorem viewM0 (h : H) : ViewM h [] [] := ⟨Nat.le_refl _, fun k k' j o o' hk => by simp at hk, fun k b hk => by simp at hk⟩
def ViewM1 (h : H) (vs : Vw) (b : Blk) (vo : Option (Nat × Nat)) : Prop := match b with
  | .cells c w g => (w = false ∧ g = none) ∧ ∀ j o, vo = some (j, o) → ∃ c' wr g, h.get j = some (.cells c' wr g) ∧ ∀ (i : Nat) (d : V), c.get i = some d → one d = true ∧ ∃ v, c'.get (o + i) = some v ∧ Ca vs v d
  | .map es clock => ∀ j o, vo = some (j, o) → o = 0 ∧ h.get j = some (.map es clock) ∧ ∀ e ∈ es, ltV 0 e.2.1 = true
  | .dead => True
  | _ => False
def ViewMs (h : H) (vs : Vw) : List Blk → Vw → Prop
  | [], [] => True
  | b :: bs, vo :: vos => ViewM1 h vs b vo ∧ ViewMs h vs bs vos
  | _, _ => False
theorem ViewMs.get {h : H} {vs : Vw} : ∀ {bs : List Blk} {vos : Vw}, ViewMs h vs bs vos → bs.length = vos.length ∧ ∀ (k : Nat) (b : Blk), bs[k]? = some b → ∃ vo, vos[k]? = some vo ∧ ViewM1 h vs b vo
  | [], [], _ => ⟨rfl, fun k b hk => by simp at hk⟩
  | b :: bs, vo :: vos, ⟨h1, h2⟩ => by
    obtain ⟨g1, g2⟩ := ViewMs.get h2
    refine ⟨by simp [g1], fun k c hk => ?_⟩
    cases k with
    | zero => simp at hk; subst hk; exact ⟨vo, rfl, h1⟩
    | succ k => obtain ⟨vo', k1, k2⟩ := g2 k c (by simpa using hk); exact ⟨vo', by simpa using k1, k2⟩
theorem viewM_of {h : H} {vs : Vw} {bs : List Blk} (hv : ViewMs h vs bs vs) (hmap : ∀ (k k' j o o' : Nat), vs[k]? = some (some (j, o)) → vs[k']? = some (some (j, o')) → (∃ es c, h.get j = some (.map es c)) → k = k') : ViewM h vs bs := by
  obtain ⟨h1, h2⟩ := hv.get
  refine ⟨by omega, hmap, fun k b hk => ?_⟩
  obtain ⟨vo, g1, g2⟩ := h2 k b hk
  cases b with
  | cells c w g =>
    obtain ⟨e1, e2⟩ := g2
    refine ⟨e1, fun j o hjo => e2 j o ?_⟩
    rw [g1] at hjo; cases hjo; rfl
  | map es clock =>
    intro j o hjo
    refine g2 j o ?_
    rw [g1] at hjo; cases hjo; rfl
  | dead => trivial
  | _ => exact g2.elim
theorem viewM1 {h : H} {vs : Vw} {l : List V} {vo} (hb : ∀ v ∈ l, bare0 v = true) (h1 : Vw1 h l vo) : ViewM1 h vs (.cells (ofL l 0) false none) vo := by
  refine ⟨⟨rfl, rfl⟩, fun j o hjo => ?_⟩
  obtain ⟨c, wr, g, h2, h3⟩ := h1 j o hjo
  refine ⟨c, wr, g, h2, fun i d hd => ?_⟩
  rw [get_ofL, if_pos (Nat.zero_le _), Nat.sub_zero] at hd
  have hbd := hb d (List.mem_of_getElem? hd)
  exact ⟨(by cases d <;> first | rfl | cases hbd), d, h3 i d hd, .bare hbd⟩
theorem Vw1.noMap {h : H} {l : List V} {vo : Option (Nat × Nat)} (h1 : Vw1 h l vo) {j o : Nat} (hjo : vo = some (j, o)) {es : List (Value × V × Nat)} {c : Nat} (hg : h.get j = some (.map es c)) : False := by
  obtain ⟨c', wr, g, h2, _⟩ := h1 j o hjo
  rw [hg] at h2; cases h2
theorem viewMc1 {h : H} {l : List V} {vo} (hb : ∀ v ∈ l, bare0 v = true) (h1 : Vw1 h l vo) : ViewM h [vo] [.cells (ofL l 0) false none] :=
  viewM_of ⟨viewM1 hb h1, trivial⟩ (fun k k' j o o' hk hk' ⟨es, c, hg⟩ => by
    cases k with
    | zero => simp at hk; exact (h1.noMap hk hg).elim
    | succ k => simp at hk)
end
end Go.As
/- Equality of structs and arrays of 64-bit numbers. -/
namespace Go.As
def flatEs (P : Program) (g : TypeId → Option Nat) : List Field → Nat → Option Nat
  | [], acc => some acc
  | f :: fs, acc => match g f.type with
    | some k => (match (f.name != "_") && Nat.beq f.offset acc && (match sizeOf? P f.type with | some s => Nat.beq s k | none => false) with
      | true => flatEs P g fs (acc + k)
      | false => none)
    | none => none
def flatE (P : Program) : Nat → TypeId → Option Nat
  | 0, _ => none
  | n + 1, t => match P.underlying t with
    | some (.int .i64) => some 1
    | some (.struct fs) => (match P.stoodInHeld t with
      | true => none
      | false => flatEs P (flatE P n) fs.toList 0)
    | some (.array m e) => (match flatE P n e with
      | some k => (match (match sizeOf? P e with | some s => Nat.beq s k | none => false) with
        | true => some (m * k)
        | false => none)
      | none => none)
    | _ => none
def intVs (l : List Int) : List Value := l.map (Value.int .i64)
inductive FlatV (P : Program) (t : TypeId) (l : List Int) : Value → Prop
  | one {x : Int} (hu : P.underlying t = some (.int .i64)) (h : l = [x]) : FlatV P t l (.int .i64 x)
  | agg (ha : isAgg? P t = some true) : FlatV P t l (.agg (intVs l).toArray)
section
variable {P : Program}
theorem isAgg_pure {t : TypeId} {b : Bool} (h : isAgg? P t = some b) : pureP P (isAgg t) = some b := by
  unfold isAgg? at h
  unfold isAgg
  split at h
  · rename_i h1; cases h; rw [pureP_bind_eq, pureP_und h1]; rfl
  · rename_i h1; cases h; rw [pureP_bind_eq, pureP_und h1]; rfl
  · rename_i d hd h1 h2
    cases h
    rw [pureP_bind_eq, pureP_und h2]
    dsimp only
    cases d <;> first | rfl | (exfalso; exact hd _ rfl) | (exfalso; exact h1 _ _ rfl)
  · cases h
theorem isAgg_int {t : TypeId} (h : P.underlying t = some (.int .i64)) : isAgg? P t = some false := by unfold isAgg?; rw [h]
theorem isAgg_struct {t : TypeId} {fs : Array Field} (h : P.underlying t = some (.struct fs)) : isAgg? P t = some true := by unfold isAgg?; rw [h]
theorem isAgg_array {t : TypeId} {m : Nat} {e : TypeId} (h : P.underlying t = some (.array m e)) : isAgg? P t = some true := by unfold isAgg?; rw [h]
theorem flat_part {n : Nat} {t : TypeId} {k : Nat} (hf : flatE P n t = some k) (hs : (match sizeOf? P t with | some s => Nat.beq s k | none => false) = true) (l : List Int) (off : Nat) (hl : off + k ≤ l.length) :
    ∃ v, pureP P (part t (intVs l).toArray off) = some v ∧ FlatV P t ((l.drop off).take k) v := by
  have hsz : sizeOf? P t = some k := by
    split at hs
    · rename_i s h; rw [h, Nat.eq_of_beq_eq_true hs]
    · cases hs
  cases n with
  | zero => cases hf
  | succ n =>
    have agg : isAgg? P t = some true → ∃ v, pureP P (part t (intVs l).toArray off) = some v ∧ FlatV P t ((l.drop off).take k) v := by
      intro ha
      refine ⟨_, ?_, .agg ha⟩
      unfold part
      rw [pureP_bind_eq, isAgg_pure ha]
      dsimp only
      rw [if_pos rfl, pureP_bind_eq, pureP_size hsz]
      dsimp only
      rw [pureP_pure]
      congr 2
      apply Array.ext'
      simp only [intVs, List.map_take, List.map_drop]
      rw [Array.toList_extract, List.extract_eq_take_drop, show off + k - off = k from by omega]
    simp only [flatE] at hf
    split at hf
    · rename_i hu
      cases hf
      have hx : off < l.length := by omega
      refine ⟨.int .i64 l[off], ?_, .one hu ?_⟩
      · refine pure_part (isAgg_int hu) ?_
        simp [intVs, hx]
      · rw [List.drop_eq_getElem_cons hx]; rfl
    · rename_i fs hu; exact agg (isAgg_struct hu)
    · rename_i m e hu; exact agg (isAgg_array hu)
    · cases hf
theorem flatEs_all {g : TypeId → Option Nat} : ∀ (fs : List Field) (acc tot : Nat), flatEs P g fs acc = some tot → acc ≤ tot ∧ (∀ f ∈ fs, (f.name != "_") = true ∧ ∃ k, g f.type = some k ∧ (match sizeOf? P f.type with | some s => Nat.beq s k | none => false) = true ∧ f.offset + k ≤ tot) ∧
    ∀ (a b : List Int), a.length = tot → b.length = tot → ((∀ f ∈ fs, ∀ k, g f.type = some k → (a.drop f.offset).take k = (b.drop f.offset).take k) ↔ a.drop acc = b.drop acc)
  | [], acc, tot, h => by
    simp only [flatEs, Option.some.injEq] at h
    subst h
    refine ⟨Nat.le_refl _, fun f hf => by simp at hf, fun a b ha hb => ?_⟩
    rw [List.drop_eq_nil_of_le (by omega), List.drop_eq_nil_of_le (by omega)]
    simp
  | f :: fs, acc, tot, h => by
    simp only [flatEs] at h
    split at h
    · rename_i k hk
      split at h
      · rename_i hc
        simp only [Bool.and_eq_true] at hc
        obtain ⟨⟨h1, h2⟩, h3⟩ := hc
        have h2 := Nat.eq_of_beq_eq_true h2
        obtain ⟨g1, g2, g3⟩ := flatEs_all fs (acc + k) tot h
        refine ⟨by omega, fun f' hf' => ?_, fun a b ha hb => ?_⟩
        · rcases List.mem_cons.1 hf' with rfl | hf'
          · exact ⟨h1, k, hk, h3, by omega⟩
          · exact g2 f' hf'
        · have hsplit : ∀ x : List Int, x.drop acc = (x.drop f.offset).take k ++ x.drop (acc + k) := by
            intro x
            rw [h2, ← List.drop_drop, List.take_append_drop]
          have hlen : ((a.drop f.offset).take k).length = ((b.drop f.offset).take k).length := by simp; omega
          constructor
          · intro hall
            rw [hsplit a, hsplit b, hall f (by simp) k hk, (g3 a b ha hb).1 (fun f' hf' => hall f' (by simp [hf']))]
          · intro he f' hf' k' hk'
            rw [hsplit a, hsplit b] at he
            obtain ⟨e1, e2⟩ := List.append_inj he hlen
            rcases List.mem_cons.1 hf' with rfl | hf'
            · rw [hk] at hk'; cases hk'; exact e1
            · exact (g3 a b ha hb).2 e2 f' hf' k' hk'
      · cases h
    · cases h
theorem blocks_eq (k : Nat) : ∀ (m : Nat) (a b : List Int), a.length = m * k → b.length = m * k → ((∀ i, i < m → (a.drop (i * k)).take k = (b.drop (i * k)).take k) ↔ a = b)
  | 0, a, b, ha, hb => by
    have h1 : a = [] := List.eq_nil_of_length_eq_zero (by omega)
    have h2 : b = [] := List.eq_nil_of_length_eq_zero (by omega)
    subst h1; subst h2; simp
  | m + 1, a, b, ha, hb => by
    have hsplit : ∀ x : List Int, x = x.take k ++ x.drop k := fun x => (List.take_append_drop k x).symm
    have hm : (m + 1) * k = m * k + k := Nat.succ_mul m k
    have ih := blocks_eq k m (a.drop k) (b.drop k) (by simp; omega) (by simp; omega)
    constructor
    · intro h
      rw [hsplit a, hsplit b]
      have h0 := h 0 (by omega)
      simp only [Nat.zero_mul, List.drop_zero] at h0
      rw [h0, ih.1 (fun i hi => by
        have := h (i + 1) (by omega)
        rw [List.drop_drop, List.drop_drop]
        rw [show k + i * k = (i + 1) * k from by rw [Nat.succ_mul]; omega]
        exact this)]
    · intro h i _; rw [h]
theorem flat_equal : ∀ (n : Nat) (t : TypeId) (k : Nat), flatE P n t = some k → ∀ (d : Nat), n ≤ d → ∀ (a b : List Int), a.length = k → b.length = k → ∀ (x y : Value), FlatV P t a x → FlatV P t b y → pureP P (Op.equalIn d t x y) = some (decide (a = b))
  | 0, t, k, h, _, _, _, _, _, _, _, _, _, _ => by cases h
  | n + 1, t, k, h, d, hd, a, b, ha, hb, x, y, hx, hy => by
    obtain ⟨d, rfl⟩ : ∃ d', d = d' + 1 := ⟨d - 1, by omega⟩
    simp only [flatE] at h
    split at h
    · rename_i hu
      cases h
      have hna := isAgg_int hu
      cases hx with
      | agg h => rw [hna] at h; cases h
      | one _ h1 =>
        cases hy with
        | agg h => rw [hna] at h; cases h
        | one _ h2 =>
          subst h1; subst h2
          rw [pure_equal_int hu]
          simp; rfl
    · rename_i fs hu
      have hna := isAgg_struct hu
      split at h
      · cases h
      · rename_i hst
        obtain ⟨_, hfs, hall⟩ := flatEs_all fs.toList 0 k h
        cases hx with
        | one hu2 _ => rw [hu] at hu2; cases hu2
        | agg _ =>
          cases hy with
          | one hu2 _ => rw [hu] at hu2; cases hu2
          | agg _ =>
            unfold Op.equalIn
            rw [pureP_bind_eq, pureP_und hu]
            dsimp only
            rw [pureP_bind_eq]
            show (match some P with | some a => _ | none => none) = _
            dsimp only
            rw [hst]
            simp only [Bool.false_eq_true, if_false]
            rw [pureP_bind_eq, ← Array.forIn_toList]
            have hstep : ∀ f ∈ fs.toList, ∃ kf xv yv, flatE P n f.type = some kf ∧ pureP P (part f.type (intVs a).toArray f.offset) = some xv ∧ pureP P (part f.type (intVs b).toArray f.offset) = some yv ∧ f.name ≠ "_" ∧
                pureP P (Op.equalIn d f.type xv yv) = some (decide ((a.drop f.offset).take kf = (b.drop f.offset).take kf)) := by
              intro f hfm
              obtain ⟨h1, kf, h2, h3, h4⟩ := hfs f hfm
              obtain ⟨xv, hx1, hx2⟩ := flat_part h2 h3 a f.offset (by omega)
              obtain ⟨yv, hy1, hy2⟩ := flat_part h2 h3 b f.offset (by omega)
              exact ⟨kf, xv, yv, h2, hx1, hy1, by simpa using h1, flat_equal n f.type kf h2 d (by omega) _ _ (by simp; omega) (by simp; omega) xv yv hx2 hy2⟩
            rw [forIn_all (P := P) fs.toList (fun f => do let x ← part f.type (intVs a).toArray f.offset; let y ← part f.type (intVs b).toArray f.offset; Op.equalIn d f.type x y)
              (fun f => match flatE P n f.type with | some kf => decide ((a.drop f.offset).take kf = (b.drop f.offset).take kf) | none => true) ?_ _ ?_]
            · dsimp only
              have hiff : (fs.toList.all fun f => match flatE P n f.type with | some kf => decide ((a.drop f.offset).take kf = (b.drop f.offset).take kf) | none => true) = decide (a = b) := by
                rw [Bool.eq_iff_iff, List.all_eq_true, decide_eq_true_eq]
                have := hall a b ha hb
                simp only [List.drop_zero] at this
                rw [← this]
                constructor
                · intro h f hf kf hk
                  have := h f hf
                  rw [hk] at this
                  exact of_decide_eq_true this
                · intro h f hf
                  cases hk : flatE P n f.type with
                  | none => rfl
                  | some kf => exact decide_eq_true (h f hf kf hk)
              rw [hiff]
              by_cases hab : a = b
              · rw [decide_eq_true hab]; rfl
              · rw [decide_eq_false hab]; rfl
            · intro f hfm
              obtain ⟨kf, xv, yv, h1, h2, h3, h4, h5⟩ := hstep f hfm
              rw [pureP_bind_eq, h2]
              dsimp only
              rw [pureP_bind_eq, h3]
              dsimp only
              rw [h5, h1]
            · intro f hfm r
              obtain ⟨kf, xv, yv, h1, h2, h3, h4, h5⟩ := hstep f hfm
              rw [if_pos h4]
              rw [pureP_bind_eq, pureP_bind_eq, h2]
              dsimp only
              rw [pureP_bind_eq, pureP_bind_eq, h3]
              dsimp only
              rw [pureP_bind_eq, h5]
              by_cases hxy : (a.drop f.offset).take kf = (b.drop f.offset).take kf
              · simp [hxy, pureP_pure]
              · simp [hxy, pureP_pure]
    · rename_i m e hu
      have hna := isAgg_array hu
      split at h
      · rename_i ke hke
        split at h
        · rename_i hsz
          cases h
          have hse : sizeOf? P e = some ke := by
            split at hsz
            · rename_i s h; rw [h, Nat.eq_of_beq_eq_true hsz]
            · cases hsz
          cases hx with
          | one hu2 _ => rw [hu] at hu2; cases hu2
          | agg _ =>
            cases hy with
            | one hu2 _ => rw [hu] at hu2; cases hu2
            | agg _ =>
              unfold Op.equalIn
              rw [pureP_bind_eq, pureP_und hu]
              dsimp only
              rw [pureP_bind_eq, pureP_size hse]
              dsimp only
              rw [pureP_bind_eq]
              simp only [Std.Legacy.Range.forIn_eq_forIn_range', Std.Legacy.Range.size, Nat.sub_zero, Nat.add_one_sub_one, Nat.div_one]
              have hin : ∀ i, i ∈ List.range' 0 m → i * ke + ke ≤ m * ke := by
                intro i hi
                have hlt : i < m := by simp at hi; exact hi
                have := Nat.mul_le_mul_right ke (show i + 1 ≤ m from hlt)
                rw [Nat.succ_mul] at this; exact this
              have hstep : ∀ i ∈ List.range' 0 m, ∃ xv yv, pureP P (part e (intVs a).toArray (i * ke)) = some xv ∧ pureP P (part e (intVs b).toArray (i * ke)) = some yv ∧
                  pureP P (Op.equalIn d e xv yv) = some (decide ((a.drop (i * ke)).take ke = (b.drop (i * ke)).take ke)) := by
                intro i hi
                have hle := hin i hi
                obtain ⟨xv, hx1, hx2⟩ := flat_part hke hsz a (i * ke) (by omega)
                obtain ⟨yv, hy1, hy2⟩ := flat_part hke hsz b (i * ke) (by omega)
                exact ⟨xv, yv, hx1, hy1, flat_equal n e ke hke d (by omega) _ _ (by simp; omega) (by simp; omega) xv yv hx2 hy2⟩
              rw [forIn_all (P := P) (List.range' 0 m) (fun i => do let x ← part e (intVs a).toArray (i * ke); let y ← part e (intVs b).toArray (i * ke); Op.equalIn d e x y)
                (fun i => decide ((a.drop (i * ke)).take ke = (b.drop (i * ke)).take ke)) ?_ _ ?_]
              · dsimp only
                have hiff : ((List.range' 0 m).all fun i => decide ((a.drop (i * ke)).take ke = (b.drop (i * ke)).take ke)) = decide (a = b) := by
                  rw [Bool.eq_iff_iff, List.all_eq_true, decide_eq_true_eq, ← blocks_eq ke m a b ha hb]
                  constructor
                  · intro h i hi; exact of_decide_eq_true (h i (by simp; exact hi))
                  · intro h i hi; exact decide_eq_true (h i (by simp at hi; exact hi))
                rw [hiff]
                by_cases hab : a = b
                · rw [decide_eq_true hab]; rfl
                · rw [decide_eq_false hab]; rfl
              · intro i hi
                obtain ⟨xv, yv, h2, h3, h5⟩ := hstep i hi
                rw [pureP_bind_eq, h2]
                dsimp only
                rw [pureP_bind_eq, h3]
                dsimp only
                rw [h5]
              · intro i hi r
                obtain ⟨xv, yv, h2, h3, h5⟩ := hstep i hi
                rw [pureP_bind_eq, pureP_bind_eq, h2]
                dsimp only
                rw [pureP_bind_eq, pureP_bind_eq, h3]
                dsimp only
                rw [pureP_bind_eq, h5]
                by_cases hxy : (a.drop (i * ke)).take ke = (b.drop (i * ke)).take ke
                · simp [hxy, pureP_pure]
                · simp [hxy, pureP_pure]
        · cases h
      · cases h
    · cases h
theorem mapM_plain (a : List Int) : mapM' plain1 (a.map (V.int .i64)) = some (intVs a) := by
  induction a with
  | nil => rfl
  | cons x a ih => simp only [List.map_cons, mapM', plain1, ih, intVs]
def eqOk (P : Program) (t : TypeId) (k : Nat) : Bool := (match flatE P 6 t with | some j => Nat.beq j k | none => false) && (match isAgg? P t with | some b => b | none => false) && !(P.eqGuardType P.depth t)
theorem slow_agg (op : BinOp) (hop : op = .eql ∨ op = .neq) {t : TypeId} {k : Nat} (hk : eqOk P t k = true) {x y : Operand} (a b : List Int) (ha : a.length = k) (hb : b.length = k) :
    slow P op t x y (.agg (a.map (V.int .i64))) (.agg (b.map (V.int .i64))) = some (.bool (match op with | .eql => decide (a = b) | _ => !decide (a = b))) := by
  unfold eqOk at hk
  simp only [Bool.and_eq_true, Bool.not_eq_true'] at hk
  obtain ⟨⟨h1, h2⟩, h3⟩ := hk
  have hf : flatE P 6 t = some k := by
    split at h1
    · rename_i j hj; rw [hj, Nat.eq_of_beq_eq_true h1]
    · cases h1
  have hag : isAgg? P t = some true := by
    split at h2
    · rename_i j hj; rw [hj, h2]
    · cases h2
  have heq : pureP P (Op.equal t (.agg (intVs a).toArray) (.agg (intVs b).toArray)) = some (decide (a = b)) := by
    unfold Op.equal Op.maxDepth
    exact flat_equal 6 t k hf 10000 (by omega) a b ha hb _ _ (.agg hag) (.agg hag)
  unfold slow
  have hp : ∀ l : List Int, plain (.agg (l.map (V.int .i64))) = some (.agg (intVs l).toArray) := by
    intro l; unfold plain; dsimp only; rw [mapM_plain]
  rw [hp, hp]
  dsimp only
  have hg : pureP P (eqGuard op t x y (.agg (intVs a).toArray) (.agg (intVs b).toArray)) = some () := by
    unfold eqGuard
    rcases hop with rfl | rfl
    all_goals
      simp only [Bool.not_true, Bool.false_eq_true, if_false]
      rw [pureP_bind_eq]
      show (match some P with | some a => _ | none => none) = _
      dsimp only
      rw [pureP_bind_eq]
      show (match some P with | some a => _ | none => none) = _
      dsimp only
      rw [h3]
      rfl
  rw [pureP_bind_eq, hg]
  dsimp only
  rcases hop with rfl | rfl
  · show (match pureP P (do let r ← Op.equal t _ _; pure (Value.bool r)) with | some v => ofVal v | none => none) = _
    rw [pureP_bind_eq, heq]
    rfl
  · show (match pureP P (do let r ← Op.equal t _ _; pure (Value.bool !r)) with | some v => ofVal v | none => none) = _
    rw [pureP_bind_eq, heq]
    rfl
theorem slow_eql {t : TypeId} {k : Nat} (hk : eqOk P t k = true) {x y : Operand} (a b : List Int) (ha : a.length = k := by rfl) (hb : b.length = k := by rfl) : slow P .eql t x y (.agg (a.map (V.int .i64))) (.agg (b.map (V.int .i64))) = some (.bool (decide (a = b))) := slow_agg .eql (.inl rfl) hk a b ha hb
end
end Go.As
/- Memories of rounds: a call or a round goes on from one of them to another one. -/
namespace Go.As
noncomputable def hD (h0 : H) (hv : List (Nat × Blk)) (n1 : Nat) : H := ⟨setBs h0.t hv, n1, 0⟩
def treeLt {α : Type} : Tr α → Nat → Bool
  | .leaf, _ => true
  | .node l a r, n => (match a with | some _ => Nat.blt 0 n | none => true) && treeLt l (n / 2) && treeLt r ((n - 1) / 2)
theorem treeLt_get {α : Type} : ∀ {t : Tr α} {n : Nat}, treeLt t n = true → ∀ i a, t.get i = some a → i < n := by
  intro t
  induction t with
  | leaf => intro n _ i a h; rw [Tr.get_leaf] at h; cases h
  | node l x r ihl ihr =>
    intro n h i a hi
    simp only [treeLt, Bool.and_eq_true] at h
    obtain ⟨⟨h1, h2⟩, h3⟩ := h
    have hv' : @Bool.rec (fun _ => Option α) (@Bool.rec (fun _ => Option α) (r.get (Nat.sub (Nat.div i 2) 1)) (l.get (Nat.div i 2)) (Nat.beq (Nat.mod i 2) 1)) x (Nat.beq i 0) = some a := hi
    cases hb : Nat.beq i 0 with
    | true =>
      rw [hb] at hv'
      have hx : x = some a := hv'
      subst hx
      have := Nat.eq_of_beq_eq_true hb
      have h1' : Nat.blt 0 n = true := h1
      rw [Nat.blt_eq] at h1'
      omega
    | false =>
      have hi0 : i ≠ 0 := fun hc => by rw [hc] at hb; cases hb
      rw [hb] at hv'
      cases hb2 : Nat.beq (Nat.mod i 2) 1 with
      | true =>
        rw [hb2] at hv'
        have hm : i % 2 = 1 := Nat.eq_of_beq_eq_true hb2
        have := ihl h2 (i / 2) a hv'
        omega
      | false =>
        rw [hb2] at hv'
        have hm : i % 2 ≠ 1 := fun hc => by have : Nat.beq (Nat.mod i 2) 1 = true := by rw [show Nat.mod i 2 = 1 from hc]; rfl
                                            rw [this] at hb2; cases hb2
        have h4 : (r.get (i / 2 - 1)) = some a := hv'
        have := ihr h3 (i / 2 - 1) a h4
        omega
structure BackH (h0 : H) (Y : List Nat) (hv : List (Nat × Blk)) (n1 : Nat) (dd : List Nat) (rl : List (Nat × Nat)) (h : H) : Prop where
  kb : keepBs h0 h (hv.map (·.1)) h0.n
  eb : eqBs (rho rl) h hv
  rge : (rl.all fun p => memB Y p.1) = true
  inj : injB rl dd n1 = true
structure OkH (h0 : H) (Y ids dd : List Nat) (n1 : Nat) (hv : List (Nat × Blk)) : Prop where
  ids : hv.map (·.1) = ids
  lt : ltBs n1 hv
  dead : deadBs dd hv
structure WfH (h0 : H) (Y ids dd : List Nat) (n1 : Nat) : Prop where
  tree : normN h0.n fun n => treeLt h0.t n = true
  n1 : Nat.ble h0.n n1 = true
  wf : wfBs h0.n Y h0 ids h0.n
  ys : (Y.all fun i => memB ids i) = true
  ds : (dd.all fun i => memB ids i) = true
theorem rho_out {Y : List Nat} : ∀ {rl : List (Nat × Nat)}, (rl.all fun p => memB Y p.1) = true → ∀ i, i ∉ Y → rho rl i = i
  | [], _, i, _ => rfl
  | (a, b) :: l, h, i, hY => by
    simp only [List.all_cons, Bool.and_eq_true] at h
    unfold rho
    cases hb : Nat.beq i a with
    | true =>
      have := Nat.eq_of_beq_eq_true hb
      subst this
      exact absurd (memB_iff.1 h.1) hY
    | false => exact rho_out h.2 i hY
section
variable {P : Program} {base : Nat}
theorem BackH.hr {h0 : H} {Y ids dd : List Nat} {n1 : Nat} {hv : List (Nat × Blk)} {rl : List (Nat × Nat)} {h : H} (b : BackH h0 Y hv n1 dd rl h) (wf : WfH h0 Y ids dd n1) (ok : OkH h0 Y ids dd n1 hv) {m : M} {w : World} (hr : HR base m h w) :
    HR base (mren n1 (rho rl) m) (hD h0 hv n1) w ∧ ∀ i bi, (hD h0 hv n1).get i = some bi → bi.wr = true → ∃ b', h.get (rho rl i) = some b' ∧ b'.wr = true := by
  have hid := rho_out b.rge
  have hlt : ∀ i b, h0.get i = some b → i < h0.n := fun i b hi => treeLt_get (by have := wf.tree; rw [normN_eq] at this; exact this) i b hi
  have hn1 := Nat.le_of_ble_eq_true wf.n1
  have hblk : ∀ i bi, (hD h0 hv n1).get i = some bi → (i, bi) ∈ hv ∨ h0.get i = some bi ∧ i < h0.n ∧ i ∉ hv.map (·.1) := by
    intro i bi hi
    rcases setBs_get (show (setBs h0.t hv).get i = some bi from hi) with h | ⟨h, hno⟩
    · exact .inl h
    · refine .inr ⟨h, hlt i bi h, fun hc => ?_⟩
      obtain ⟨p, hp, rfl⟩ := List.mem_map.1 hc
      exact hno p.2 hp
  have hlt1 : ∀ i bi, (hD h0 hv n1).get i = some bi → i < n1 := by
    intro i bi hi
    rcases hblk i bi hi with h | ⟨_, h, _⟩
    · exact (ltBs_mem ok.lt _ h).1
    · omega
  have hsub : ∀ i bi, (hD h0 hv n1).get i = some bi → bi = .dead ∨ ∃ b', h.get (rho rl i) = some b' ∧ SubQ (rho rl) bi b' ∧ ltB n1 bi := by
    intro i bi hi
    rcases hblk i bi hi with h1 | ⟨h1, hin, hns⟩
    · rcases eqBs_mem b.eb _ h1 with h2 | ⟨b', h2, h3⟩
      · exact .inl h2
      · exact .inr ⟨b', h2, h3, (ltBs_mem ok.lt _ h1).2⟩
    · cases hbl : bi.live with
      | false => left; cases bi <;> first | rfl | cases hbl
      | true =>
        right
        rw [ok.ids] at hns
        obtain ⟨hl, hav⟩ := wfBs_mem wf.wf i bi hin hns h1
        have hiY : i ∉ Y := fun hc => hns (memB_iff.1 (List.all_eq_true.1 wf.ys i hc))
        exact ⟨bi, by rw [hid i hiY, keepBs_mem b.kb i hin (by rw [ok.ids]; exact hns)]; exact h1, SubQ.same (n := h0.n) (Y := Y) (fun i _ hi => hid i hi) hl hav hbl, hl.mono hn1⟩
  have hinj : ∀ i j bi bj, (hD h0 hv n1).get i = some bi → (hD h0 hv n1).get j = some bj → bi.live = true → bj.live = true → rho rl i = rho rl j → i = j := by
    intro i j bi bj hi hj hli hlj he
    have nd : ∀ i bi, (hD h0 hv n1).get i = some bi → bi.live = true → i ∉ dd := by
      intro i bi hi hl hc
      rcases hblk i bi hi with h | ⟨_, _, hns⟩
      · have hde : bi = .dead := deadBs_mem ok.dead _ h hc
        rw [hde] at hl; cases hl
      · rw [ok.ids] at hns
        exact hns (memB_iff.1 (List.all_eq_true.1 wf.ds i hc))
    exact injB_spec b.inj (hlt1 i bi hi) (hlt1 j bj hj) (nd i bi hi hli) (nd j bj hj hlj) he
  refine ⟨?_, fun i bi hi hw => ?_⟩
  · exact {
      blk := fun i b r s' hi hm => by
        rcases hsub i b hi with rfl | ⟨b', hb', hsub, hl⟩
        · trivial
        · exact hsub.BR hl mrenOk (hr.blk _ b' r s' hb' (mren_some hm).2)
      inj := fun i j bi bj r s' s'' hi hj hw hl hmi hmj => by
        rcases hsub i bi hi with rfl | ⟨bi', hbi, hsi, _⟩
        · cases hw
        rcases hsub j bj hj with rfl | ⟨bj', hbj, hsj, _⟩
        · cases hl
        exact hinj i j bi bj hi hj hsi.live.1 hl (hr.inj _ _ bi' bj' r s' s'' hbi hbj (hsi.wr hw) hsj.live.2 (mren_some hmi).2 (mren_some hmj).2)
      own := fun i b r s' hi hw hm => by
        rcases hsub i b hi with rfl | ⟨bi', hbi, hsi, _⟩
        · cases hw
        exact hr.own _ bi' r s' hbi (hsi.wr hw) (mren_some hm).2
      frz := hr.frz
      nfz := fun i b r s' hi hw hm => by
        rcases hsub i b hi with rfl | ⟨bi', hbi, hsi, _⟩
        · cases hw
        exact hr.nfz _ bi' r s' hbi (hsi.wr hw) (mren_some hm).2
      rng := fun i r s' hm => hr.rng _ r s' (mren_some hm).2
      lt := hlt1
      dom := fun i hi => by have hi' : n1 ≤ i := hi; rw [mren_at, if_neg (by omega)] }
  · rcases hsub i bi hi with rfl | ⟨b', hb', hs, _⟩
    · cases hw
    · exact ⟨b', hb', hs.wr hw⟩
theorem BackH.post {h0 : H} {Y X ids dd : List Nat} {n1 k : Nat} {hv : List (Nat × Blk)} {rl : List (Nat × Nat)} {h' : H} (b : BackH h0 Y hv n1 dd rl h') (wf : WfH h0 Y ids dd n1) (ok : OkH h0 Y ids dd n1 hv) (hX : ∀ i ∈ Y, k ≤ i ∨ i ∈ X) (hk : k ≤ n1) {m m' : M} {h : H} {w w' : World} (hsw : SW base k X m h w m' h' w') :
    SW base k X m h w (mren n1 (rho rl) m') (hD h0 hv n1) w' := by
  obtain ⟨g1, g2⟩ := b.hr wf ok hsw.hr
  exact {
    same := fun i hi hiX => by
      rw [mren_lt i (by omega), rho_out b.rge i (fun hc => (hX i hc).elim (fun h => absurd hi (Nat.not_lt.2 h)) hiX)]
      exact hsw.same i hi hiX
    hr := g1
    fzx := hsw.fzx
    fzn := hsw.fzn
    n := hk
    os := hsw.os
    tape := hsw.tape
    output := hsw.output
    size := hsw.size
    frame := hsw.frame
    fresh := fun i bi r s hi hw hm => by
      obtain ⟨b', hb', hw'⟩ := g2 i bi hi hw
      exact hsw.fresh _ b' r s hb' hw' (mren_some hm).2 }
theorem YldW.back {X : List Nat} {l : Nat} {args : List V} {h : H} {K K0 : V → H → Prop} (hy : YldW P X l args h K0) {h0 : H} {Y ids dd : List Nat} {n1 : Nat} {hv : List (Nat × Blk)} {v1 : V} (wf : WfH h0 Y ids dd n1) (hX : ∀ i ∈ Y, h.n ≤ i ∨ i ∈ X) (hk : h.n ≤ n1) (hl : ltV n1 v1 = true)
    (h0K : ∀ v h', K0 v h' → OkH h0 Y ids dd n1 hv ∧ ∃ rl, v = renV (rho rl) v1 ∧ BackH h0 Y hv n1 dd rl h') (hK : K v1 (hD h0 hv n1)) : YldW P X l args h K := by
  refine ⟨fun base m w xs r hr hB hm hvs => ?_⟩
  obtain ⟨f, tmps, assign, body, h1, h2⟩ := hy.out base m w xs r hr hB hm hvs
  refine ⟨f, tmps, assign, body, h1, RoundIn.mono h2 ?_⟩
  rintro e w' ⟨v, h', m', x, hk0, rfl, hsw, hvx⟩
  obtain ⟨ok, rl, rfl, hb⟩ := h0K v h' hk0
  exact ⟨v1, _, _, x, hK, rfl, hb.post wf ok hX hk hsw, VR.ren mrenOk v1 hl hvx⟩
theorem CallW.back {X : List Nat} {f : FuncId} {args : List V} {h : H} {K K0 : V → H → Prop} (hc : CallW P X f args h K0) {h0 : H} {Y ids dd : List Nat} {n1 : Nat} {hv : List (Nat × Blk)} {v1 : V} (wf : WfH h0 Y ids dd n1) (hX : ∀ i ∈ Y, h.n ≤ i ∨ i ∈ X) (hk : h.n ≤ n1) (hl : ltV n1 v1 = true)
    (h0K : ∀ v h', K0 v h' → OkH h0 Y ids dd n1 hv ∧ ∃ rl, v = renV (rho rl) v1 ∧ BackH h0 Y hv n1 dd rl h') (hK : K v1 (hD h0 hv n1)) : CallW P X f args h K := by
  refine ⟨fun base m w xs hr hB hvs => ⟨(hc.out base m w xs hr hB hvs).1, CallsIn.mono (hc.out base m w xs hr hB hvs).2 ?_⟩⟩
  rintro e w' ⟨v, h', m', x, hk0, rfl, hsw, hvx⟩
  obtain ⟨ok, rl, rfl, hb⟩ := h0K v h' hk0
  exact ⟨v1, _, _, x, hK, rfl, hb.post wf ok hX hk hsw, VR.ren mrenOk v1 hl hvx⟩
theorem CallW.pre {X : List Nat} {f : FuncId} {args args1 : List V} {K : V → H → Prop} {h0 : H} {Y ids dd : List Nat} {n1 : Nat} {hv : List (Nat × Blk)} {rl : List (Nat × Nat)} (hb : BackH h0 Y hv n1 dd rl h0) (wf : WfH h0 Y ids dd n1) (ok : OkH h0 Y ids dd n1 hv) (hX : ∀ i ∈ Y, h0.n ≤ i ∨ i ∈ X) (ha : args = renL (rho rl) args1) (hla : ltL n1 args1 = true)
    (hc : CallW P X f args1 (hD h0 hv n1) K) : CallW P X f args h0 K := by
  refine ⟨fun base m w xs hr hB hvs => ?_⟩
  obtain ⟨g1, g2⟩ := hb.hr wf ok hr
  have hn1 := Nat.le_of_ble_eq_true wf.n1
  have hvs1 : VRs (mren n1 (rho rl) m) args1 xs := by
    subst ha
    have := VRs.ren (m := m) (m1 := mren n1 (rho rl) m) (ρ := rho rl) (n := n1) mrenOk args1 (a := xs.toArray) hla ⟨by simpa using hvs.1, fun k v x hv hx => hvs.2 k v x hv (by simpa using hx)⟩
    exact ⟨by simpa using this.1, fun k v x hv hx => this.2 k v x hv (by simpa using hx)⟩
  obtain ⟨h1, h2⟩ := hc.out base _ w xs g1 hB hvs1
  refine ⟨h1, CallsIn.mono h2 ?_⟩
  rintro e w' ⟨v, h', m', x, hK, rfl, hsw, hvx⟩
  refine ⟨v, h', m', x, hK, rfl, ?_, hvx⟩
  exact {
    same := fun i hi hiX => by
      have hi1 : i < n1 := by omega
      rw [hsw.same i hi1 hiX, mren_lt i hi1, rho_out hb.rge i (fun hc => (hX i hc).elim (fun h => absurd hi (Nat.not_lt.2 h)) hiX)]
    hr := hsw.hr
    fzx := hsw.fzx
    fzn := fun r p hp => by
      rcases hsw.fzn r p hp with h1 | h1 | ⟨j, bj, s', hj, hwj, hmj⟩
      · exact .inl h1
      · exact .inr (.inl h1)
      · obtain ⟨b', hb', hw'⟩ := g2 j bj hj hwj
        exact .inr (.inr ⟨_, b', s', hb', hw', (mren_some hmj).2⟩)
    n := Nat.le_trans hn1 hsw.n
    os := hsw.os
    tape := hsw.tape
    output := hsw.output
    size := hsw.size
    frame := fun r hr' hno => hsw.frame r hr' (fun i bi s hi hw hm => by
      obtain ⟨b', hb', hw'⟩ := g2 i bi hi hw
      exact hno _ b' s hb' hw' (mren_some hm).2)
    fresh := fun i bi r s hi hw hm => by
      rcases hsw.fresh i bi r s hi hw hm with hlt | ⟨j, bj, s', hj, hwj, hmj⟩
      · exact .inl hlt
      · obtain ⟨b', hb', hw'⟩ := g2 j bj hj hwj
        exact .inr ⟨_, b', s', hb', hw', (mren_some hmj).2⟩ }
theorem YldW.mono {X : List Nat} {l : Nat} {args : List V} {h : H} {K K' : V → H → Prop} (hy : YldW P X l args h K) (hk : ∀ v h', K v h' → K' v h') : YldW P X l args h K' := by
  refine ⟨fun base m w xs r hr hB hm hvs => ?_⟩
  obtain ⟨f, tmps, assign, body, h1, h2⟩ := hy.out base m w xs r hr hB hm hvs
  refine ⟨f, tmps, assign, body, h1, RoundIn.mono h2 ?_⟩
  rintro e w' ⟨v, h', m', x, hk0, he, h3⟩
  exact ⟨v, h', m', x, hk v h' hk0, he, h3⟩
structure LessT (s1 s : St) : Prop where
  nt : s1.nt = s.nt
  marks : s1.marks = s.marks
  h : s1.h = s.h
  t : ∀ i v, s1.t.get i = some v → s.t.get i = some v
theorem LessT.sat {n0 : Nat} {X : List Nat} {ro rr : Option Nat} {s1 s : St} (d : LessT s1 s) {m0 : M} {h0 : H} {w0 : World} {a : Act} {w : World} (h : SatR base n0 X m0 h0 w0 ro rr s a w) : SatR base n0 X m0 h0 w0 ro rr s1 a w := by
  obtain ⟨m, hsw, hat, hro⟩ := h
  refine ⟨m, by rw [d.h]; exact hsw, ⟨by rw [d.h]; exact hat.hr, hat.base, ⟨by rw [d.nt]; exact hat.tr.1, fun i v hi => hat.tr.2 i v (d.t i v hi)⟩, by rw [d.marks]; exact hat.mks⟩, hro⟩
def hasTs (t : Tr V) : List (Nat × V) → Prop
  | [] => True
  | (i, v) :: l => t.get i = some v ∧ hasTs t l
theorem hasTs_mem {t : Tr V} : ∀ {l : List (Nat × V)}, hasTs t l → ∀ p ∈ l, t.get p.1 = some p.2
  | q :: l, ⟨h1, h2⟩, p, hp => by
    rcases List.mem_cons.1 hp with rfl | hp
    · exact h1
    · exact hasTs_mem h2 p hp
theorem LessT.mk' {t : Tr V} {l : List (Nat × V)} {nt nt' : Nat} {marks marks' : List Nat} {h h' : H} (h1 : nt = nt') (h2 : marks = marks') (h3 : h = h') (ht : hasTs t l) : LessT ⟨tm l, nt, marks, h⟩ ⟨t, nt', marks', h'⟩ :=
  ⟨h1, h2, h3, fun i v hi => hasTs_mem ht _ (tm_get hi)⟩
end
end Go.As
/- Loops of few rounds, one round after another. -/
namespace Go.As
section
variable {P : Program}
noncomputable def rollR (P : Program) (n0 : Nat) (X : List Nat) (ro : Option Nat) (c : Code) (Q : Ex → St → Prop) : Nat → St → Prop
  | 0, _ => False
  | k + 1, s => vc2 P n0 X ro c s (fun ex s' => match ex with | .normal => rollR P n0 X ro c Q k s' | ex => Q ex s')
theorem WpR.loopU {n0 : Nat} {X : List Nat} {ro : Option Nat} {c : Code} {Q : Ex → St → Prop} {s0 : St} (k : Nat) (hI : rollR P n0 X ro c Q k s0) : WpR P n0 X ro (.loop c) s0 Q := by
  refine ⟨fun base m0 h0' w0 rr a w hs => ?_⟩
  have key : ∀ (k : Nat) (s : St), rollR P n0 X ro c Q k s → ∀ (a : Act) (w : World), SatR base n0 X m0 h0' w0 ro rr s a w → Code.roundsIn (rf rr) 0 P c (PostR base n0 X m0 h0' w0 ro rr Q) k a w := by
    intro k
    induction k with
    | zero => intro s h; exact h.elim
    | succ k ih =>
      intro s hk a w hs
      rw [roundsIn_succ]
      refine wpIn_mono ((WpR.of_vc hk).out base m0 h0' w0 rr a w hs) ?_
      rintro e a1 w1 ⟨ex, s', hq, rfl, hs'⟩
      cases ex with
      | normal => exact ih s' hq a1 w1 hs'
      | exit id => exact ⟨_, s', hq, rfl, hs'⟩
      | ret => exact ⟨_, s', hq, rfl, hs'⟩
  exact wpIn_loop_rounds k (key k s0 hI a w hs)
end
end Go.As
/- Regions that draw their order, but for the operations at their end, which come one after another in each order. -/
namespace Go.As
def headA (ops : Array Oper) (k : Nat) : Array Oper := (ops.toList.take k).toArray
theorem headA_get {ops : Array Oper} {k i : Nat} (hi : i < k) : (headA ops k)[i]? = ops[i]? := by
  unfold headA
  simp [hi]
def tailOk (ops : Array Oper) (k : Nat) : Bool :=
  Nat.blt k ops.size && Nat.beq ((masks ops.toList []).getD k 0) (2 ^ k - 1) &&
  ((List.range' (k + 1) (ops.size - (k + 1))).all fun i => match ops[i]? with
    | some o => (o.after.toList.any fun e => Region.binds .any e && Nat.beq (e.on + 1) i)
    | none => false) &&
  ((List.range' 0 ops.size).all fun i => match ops[i]? with
    | some o => o.after.toList.all fun e => !Region.binds .any e || Nat.blt e.on i
    | none => false) &&
  ((List.range' 0 k).all fun i => match ops[i]? with
    | some o => (match o.guard with | some (j, _) => Nat.blt j k | none => true)
    | none => false)
structure TailOk (ops : Array Oper) (k : Nat) (B : Nat → Nat) : Prop where
  lt : k < ops.size
  all : ∀ j, j < k → (B k).testBit j = true
  chain : ∀ i o, k < i → ops[i]? = some o → ∃ e ∈ o.after, Region.binds .any e = true ∧ e.on + 1 = i
  edge : ∀ i o, ops[i]? = some o → ∀ e ∈ o.after, Region.binds .any e = true → e.on < i
  guard : ∀ i o j b, i < k → ops[i]? = some o → o.guard = some (j, b) → j < k
  before : ∀ (j : Nat) (o : Oper) (i : Nat), ops[j]? = some o → (B j).testBit i = true → ∃ e ∈ o.after, Region.binds .any e = true ∧ (e.on = i ∨ (B e.on).testBit i = true)
theorem tailOk_spec {ops : Array Oper} {k : Nat} (h : tailOk ops k = true) : ∃ B, TailOk ops k B := by
  unfold tailOk at h
  simp only [Bool.and_eq_true] at h
  obtain ⟨⟨⟨⟨h1, h2⟩, h3⟩, h5⟩, h4⟩ := h
  have hk : k < ops.size := by rw [Nat.blt_eq] at h1; exact h1
  rw [List.all_eq_true] at h3 h4 h5
  refine ⟨fun j => (masks ops.toList []).getD j 0, hk, fun j hj => ?_, fun i o hi ho => ?_, fun i o ho e he hb => ?_, fun i o j b hi ho hg => ?_, fun j o i ho hb => ?_⟩
  · have := Nat.eq_of_beq_eq_true h2
    rw [this, Nat.testBit_two_pow_sub_one]
    exact decide_eq_true hj
  · have hlt := (Array.getElem?_eq_some_iff.1 ho).1
    have := h3 i (by rw [List.mem_range'_1]; omega)
    rw [ho] at this
    dsimp only at this
    obtain ⟨e, he, hb⟩ := List.any_eq_true.1 this
    rw [Bool.and_eq_true] at hb
    exact ⟨e, Array.mem_toList_iff.1 he, hb.1, Nat.eq_of_beq_eq_true hb.2⟩
  · have hlt := (Array.getElem?_eq_some_iff.1 ho).1
    have := h5 i (by rw [List.mem_range'_1]; omega)
    rw [ho] at this
    dsimp only at this
    rw [List.all_eq_true] at this
    have := this e (Array.mem_toList_iff.2 he)
    rw [hb] at this
    simpa [Nat.blt_eq] using this
  · have := h4 i (by rw [List.mem_range'_1]; omega)
    rw [ho] at this
    dsimp only at this
    rw [hg] at this
    dsimp only at this
    rwa [Nat.blt_eq] at this
  · obtain ⟨r, _, hm⟩ := masks_spec ops.toList []
    exact hm j o i (by simpa using ho) (by simpa using hb)
section
variable {F : Fence} {n : Nat} {P : Program}
theorem uponIn_exits {o : Oper} {a : Act} {next : Act → World → Prop} {Q Q' : Exit → Act → World → Prop} (hq : ∀ e a w, e ≠ .normal → Q' e a w → Q e a w) (hl : LetsOut Q' → LetsOut Q) {r : Result Next} (h : o.uponIn F n P a next Q' r) : o.uponIn F n P a next Q r := by
  cases r with
  | ok x w' =>
    cases x <;> simp only [Oper.uponIn] at h ⊢ <;>
      first
        | exact h
        | exact ⟨h.1, CallsIn.mono h.2 (fun e w'' he => by cases e <;> first | exact he | exact hq _ _ _ (by intro hc; cases hc) he | exact hl he)⟩
        | exact ⟨h.1, RoundIn.mono h.2 (fun e w'' he => by cases e <;> first | exact he | exact hq _ _ _ (by intro hc; cases hc) he | exact hl he)⟩
  | halt x w' =>
    cases x <;> simp only [Oper.uponIn] at h ⊢ <;> first | exact h | exact hq _ _ _ (by intro hc; cases hc) h
theorem wpOpIn_exits {ops ops' : Array Oper} {i : Nat} {K : Act → World → Prop} {a : Act} {w : World} {Q Q' : Exit → Act → World → Prop} (hq : ∀ e a w, e ≠ .normal → Q' e a w → Q e a w) (hl : LetsOut Q' → LetsOut Q)
    (hi : ops'[i]? = ops[i]?) (hw : ∀ o, ops[i]? = some o → Region.wanted o (yielded ops' a.tmps) = Region.wanted o (yielded ops a.tmps)) (h : wpOpIn F n P ops' Q' i K a w) : wpOpIn F n P ops Q i K a w := by
  unfold wpOpIn at *
  rw [hi] at h
  split
  · rename_i hn; rw [hn] at h; exact h
  · rename_i o ho
    rw [ho] at h
    dsimp only at h
    rw [hw o ho] at h
    split
    · rename_i hx
      rw [if_pos hx] at h
      exact ⟨h.1, uponIn_exits hq hl h.2⟩
    · rename_i hx
      rw [if_neg hx] at h
      exact h
def tailQ (F : Fence) (n : Nat) (P : Program) (ops : Array Oper) (k : Nat) (Q : Exit → Act → World → Prop) : Exit → Act → World → Prop := fun e a w => (e = .normal → wpOpsIn F n P ops Q (List.range' k (ops.size - k)) a w) ∧ (e ≠ .normal → Q e a w)
theorem any_tail {ops : Array Oper} {k : Nat} {B : Nat → Nat} (ht : TailOk ops k B) {Q : Exit → Act → World → Prop} : ∀ (m i : Nat), i + m = ops.size → k ≤ i → ∀ (fuel : Nat), m ≤ fuel → ∀ (listed : Array Bool) (a : Act) (w : World), listed.size = ops.size → (∀ j, j < i → dn listed j = true) → (∀ j, i ≤ j → j < ops.size → dn listed j = false) →
    wpOpsIn F n P ops Q (List.range' i m) a w → wpAnyIn F n P .any ops Q fuel listed a w := by
  intro m
  induction m with
  | zero =>
    intro i hm hk fuel hf listed a w hs h1 h2 h
    have hr : Region.ready .any ops listed = [] := by
      rw [List.eq_nil_iff_forall_not_mem]
      intro j hj
      obtain ⟨h3, o, ho, _⟩ := mem_ready.1 hj
      have hlt := (Array.getElem?_eq_some_iff.1 ho).1
      have := h1 j (by omega)
      unfold dn at this
      rw [this] at h3; cases h3
    cases fuel with
    | zero => exact ⟨hr, h⟩
    | succ fuel => exact ⟨fun _ => h, fun j hj => by rw [hr] at hj; cases hj⟩
  | succ m ih =>
    intro i hm hk fuel hf listed a w hs h1 h2 h
    have hlt : i < ops.size := by omega
    have hready : ∀ j, j ∈ Region.ready .any ops listed ↔ j = i := by
      intro j
      rw [mem_ready]
      refine ⟨fun ⟨h3, o, ho, he⟩ => ?_, fun hj => ?_⟩
      · have hj := (Array.getElem?_eq_some_iff.1 ho).1
        rcases Nat.lt_or_ge j i with h4 | h4
        · have := h1 j h4; unfold dn at this; rw [this] at h3; cases h3
        · rcases Nat.eq_or_lt_of_le h4 with h5 | h5
          · exact h5.symm
          · exfalso
            obtain ⟨e, hm1, hb, hon⟩ := ht.chain j o (by omega) ho
            have h6 := he e hm1 hb
            have h7 := h2 e.on (by omega) (by omega)
            unfold dn at h7
            rw [Array.getD_eq_getD_getElem?, Array.getElem?_eq_getElem (by omega)] at h6 h7
            simp at h6 h7
            rw [h6] at h7; cases h7
      · subst hj
        refine ⟨h2 j (Nat.le_refl _) hlt, ops[j], Array.getElem?_eq_getElem hlt, fun e he hb => ?_⟩
        have h8 := h1 e.on (ht.edge j _ (Array.getElem?_eq_getElem hlt) e he hb)
        unfold dn at h8
        rw [Array.getD_eq_getD_getElem?, Array.getElem?_eq_getElem (by have := ht.edge j _ (Array.getElem?_eq_getElem hlt) e he hb; omega)] at h8 ⊢
        exact h8
    cases fuel with
    | zero => omega
    | succ fuel =>
      have hne : Region.ready .any ops listed ≠ [] := fun hc => by
        have := (hready i).2 rfl
        rw [hc] at this; cases this
      refine ⟨fun hc => absurd hc hne, fun j hj => ?_⟩
      have hji := (hready j).1 hj
      subst hji
      have hrange : List.range' j (m + 1) = j :: List.range' (j + 1) m := by simp [List.range'_succ]
      rw [hrange, wpOpsIn_cons] at h
      refine wpOpIn_mono (fun a' w' hh => ?_) h
      refine ih (j + 1) (by omega) (by omega) fuel (by omega) _ a' w' (by simpa using hs) (fun x hx => ?_) (fun x hx hxs => ?_) hh
      · rw [dn_set (by omega)]
        unfold plus
        by_cases hxj : x = j
        · simp [hxj]
        · have := h1 x (by omega); simp [this]
      · rw [dn_set (by omega)]
        unfold plus
        have := h2 x (by omega) hxs
        have hne : ¬ x = j := by omega
        simp [this, hne]
def Closed (ops : Array Oper) (L : Array Bool) : Prop := ∀ i o, ops[i]? = some o → dn L i = true → ∀ e ∈ o.after, Region.binds .any e = true → dn L e.on = true
theorem closed_mask {ops : Array Oper} {k : Nat} {B : Nat → Nat} (ht : TailOk ops k B) {L : Array Bool} (hc : Closed ops L) : ∀ (j : Nat) (o : Oper), ops[j]? = some o → (∀ e ∈ o.after, Region.binds .any e = true → dn L e.on = true) → ∀ i, (B j).testBit i = true → dn L i = true := by
  intro j
  induction j using Nat.strongRecOn with
  | ind j ih =>
    intro o ho he i hb
    obtain ⟨e, he1, hb1, h⟩ := ht.before j o i ho hb
    rcases h with rfl | h
    · exact he e he1 hb1
    · have hlt := ht.edge j o ho e he1 hb1
      have hj := (Array.getElem?_eq_some_iff.1 ho).1
      have hd := he e he1 hb1
      exact ih e.on hlt ops[e.on] (Array.getElem?_eq_getElem (by omega)) (hc e.on _ (Array.getElem?_eq_getElem (by omega)) hd) i h
theorem any_split {ops : Array Oper} {k : Nat} {B : Nat → Nat} (ht : TailOk ops k B) {Q : Exit → Act → World → Prop} : ∀ (fuel : Nat) (L L' : Array Bool) (a : Act) (w : World), L.size = ops.size → L'.size = k → (∀ i, i < k → dn L i = dn L' i) → (∀ i, k ≤ i → i < ops.size → dn L i = false) → Closed ops L →
    L'.toList.count false ≤ fuel → wpAnyIn F n P .any (headA ops k) (tailQ F n P ops k Q) fuel L' a w → wpAnyIn F n P .any ops Q (fuel + (ops.size - k)) L a w := by
  have hlt := ht.lt
  have hsz : (headA ops k).size = k := by unfold headA; simp; omega
  have done : ∀ (fuel : Nat) (L L' : Array Bool) (a : Act) (w : World), L.size = ops.size → (∀ i, i < k → dn L i = true) → (∀ i, k ≤ i → i < ops.size → dn L i = false) → tailQ F n P ops k Q .normal a w → wpAnyIn F n P .any ops Q (fuel + (ops.size - k)) L a w := by
    intro fuel L L' a w hL h1 h2 hq
    exact any_tail ht (ops.size - k) k (by omega) (Nat.le_refl _) _ (by omega) L a w hL h1 h2 (hq.1 rfl)
  intro fuel
  induction fuel with
  | zero =>
    intro L L' a w hL hL' heq h2 hc hcnt h
    refine done 0 L L' a w hL (fun i hi => ?_) h2 h.2
    rw [heq i hi]
    cases hd : dn L' i with
    | true => rfl
    | false =>
      exfalso
      unfold dn at hd
      rw [Array.getD_eq_getD_getElem?, Array.getElem?_eq_getElem (by omega)] at hd
      have hd' : L'[i] = false := hd
      have : false ∈ L'.toList := by rw [← hd']; exact Array.mem_toList_iff.2 (Array.getElem_mem (by omega))
      have := List.count_pos_iff.2 this
      omega
  | succ fuel ih =>
    intro L L' a w hL hL' heq h2 hc hcnt h
    have hsub : ∀ i, i < k → (i ∈ Region.ready .any ops L ↔ i ∈ Region.ready .any (headA ops k) L') := by
      intro i hi
      have hget : ∀ j, j < k → L.getD j true = L'.getD j true := heq
      have hget2 : ∀ j, j < k → L.getD j false = L'.getD j false := fun j hj => by
        have := heq j hj
        unfold dn at this
        rw [Array.getD_eq_getD_getElem?, Array.getD_eq_getD_getElem?, Array.getElem?_eq_getElem (by omega), Array.getElem?_eq_getElem (by omega)] at this ⊢
        exact this
      rw [mem_ready, mem_ready, headA_get hi, hget i hi]
      refine and_congr Iff.rfl ⟨fun ⟨o, ho, he⟩ => ⟨o, ho, fun e h3 h4 => ?_⟩, fun ⟨o, ho, he⟩ => ⟨o, ho, fun e h3 h4 => ?_⟩⟩
      · have := ht.edge i o ho e h3 h4
        rw [← hget2 e.on (by omega)]; exact he e h3 h4
      · have := ht.edge i o ho e h3 h4
        rw [hget2 e.on (by omega)]; exact he e h3 h4
    by_cases hall : ∀ i, i < k → dn L i = true
    · have hr : Region.ready .any (headA ops k) L' = [] := by
        rw [List.eq_nil_iff_forall_not_mem]
        intro i hi
        obtain ⟨h3, o, ho, _⟩ := mem_ready.1 hi
        have hik := (Array.getElem?_eq_some_iff.1 ho).1
        have := hall i (by omega)
        rw [heq i (by omega)] at this
        unfold dn at this
        rw [this] at h3; cases h3
      exact done (fuel + 1) L L' a w hL hall h2 (h.1 hr)
    · have hlow : ∀ i ∈ Region.ready .any ops L, i < k := by
        intro i hi
        rcases Nat.lt_or_ge i k with h3 | h3
        · exact h3
        · exfalso
          obtain ⟨h4, o, ho, he⟩ := mem_ready.1 hi
          have hil := (Array.getElem?_eq_some_iff.1 ho).1
          have he' : ∀ e ∈ o.after, Region.binds .any e = true → dn L e.on = true := fun e h5 h6 => by
            have h7 := he e h5 h6
            have := ht.edge i o ho e h5 h6
            unfold dn
            rw [Array.getD_eq_getD_getElem?, Array.getElem?_eq_getElem (by omega)] at h7 ⊢
            exact h7
          rcases Nat.eq_or_lt_of_le h3 with h5 | h5
          · subst h5
            exact hall fun j hj => closed_mask ht hc k o ho he' j (ht.all j hj)
          · obtain ⟨e, h6, h7, h8⟩ := ht.chain i o h5 ho
            have h9 := he' e h6 h7
            rw [h2 e.on (by omega) (by omega)] at h9; cases h9
      obtain ⟨i0, hi0, hd0, hmin⟩ : ∃ i, i < k ∧ dn L i = false ∧ ∀ j, j < i → dn L j = true := by
        have : ∃ i, i < k ∧ dn L i = false := by
          apply Classical.byContradiction
          intro hcn
          refine hall fun i hi => ?_
          cases hd : dn L i with
          | true => rfl
          | false => exact absurd ⟨i, hi, hd⟩ hcn
        obtain ⟨i, hi⟩ := this
        induction i using Nat.strongRecOn with
        | ind i ihi =>
          by_cases hx : ∀ j, j < i → dn L j = true
          · exact ⟨i, hi.1, hi.2, hx⟩
          · obtain ⟨j, hj⟩ := Classical.not_forall.1 hx
            obtain ⟨hj1, hj2⟩ := Classical.not_imp.1 hj
            exact ihi j hj1 ⟨by omega, by cases hd : dn L j with | true => exact absurd hd hj2 | false => rfl⟩
      have hin : i0 ∈ Region.ready .any ops L := mem_ready.2 ⟨hd0, ops[i0], Array.getElem?_eq_getElem (by omega), fun e he hb => by
        have h3 := ht.edge i0 _ (Array.getElem?_eq_getElem (by omega)) e he hb
        have := hmin e.on h3
        unfold dn at this
        rw [Array.getD_eq_getD_getElem?, Array.getElem?_eq_getElem (by omega)] at this ⊢
        exact this⟩
      rw [show fuel + 1 + (ops.size - k) = fuel + (ops.size - k) + 1 from by omega]
      refine ⟨fun hc => (by rw [hc] at hin; cases hin), fun i hi => ?_⟩
      have hik := hlow i hi
      have h3 := h.2 i ((hsub i hik).1 hi)
      obtain ⟨hun, o, ho, hedge⟩ := mem_ready.1 hi
      refine wpOpIn_exits (Q' := tailQ F n P ops k Q) (fun e a w hne hq => hq.2 hne) (fun ⟨a, w, hq⟩ => ⟨a, w, hq.2 (by intro hc; cases hc)⟩) (headA_get hik) (fun o ho => ?_) (wpOpIn_mono (fun a' w' hh => ?_) h3)
      · unfold Region.wanted
        cases hg : o.guard with
        | none => rfl
        | some jb =>
          obtain ⟨j, b⟩ := jb
          have hjk := ht.guard i o j b hik ho hg
          simp only [yielded, headA_get hjk]
      · refine ih (L.setIfInBounds i true) (L'.setIfInBounds i true) a' w' (by simpa using hL) (by simpa using hL') (fun j hj => ?_) (fun j hj hjs => ?_) ?_ ?_ hh
        · rw [dn_set (by omega), dn_set (by omega)]
          unfold plus
          have := heq j hj
          unfold dn at this ⊢
          rw [this]
        · rw [dn_set (by omega)]
          unfold plus
          have h4 := h2 j hj hjs
          have hne : ¬ j = i := by omega
          unfold dn at h4 ⊢
          simp [h4, hne]
        · intro j oj hoj hdj e he hb
          rw [dn_set (by omega)] at hdj ⊢
          unfold plus at hdj ⊢
          by_cases hji : j = i
          · subst hji
            rw [ho] at hoj; cases hoj
            have h7 := hedge e he hb
            have := ht.edge j o ho e he hb
            have h8 : dn L e.on = true := by
              unfold dn
              rw [Array.getD_eq_getD_getElem?, Array.getElem?_eq_getElem (by omega)] at h7 ⊢
              exact h7
            unfold dn at h8
            simp [h8]
          · have h8 : dn L j = true := by simpa [hji] using hdj
            have := hc j oj hoj h8 e he hb
            unfold dn at this
            simp [this]
        · have hget : L'[i]? = some false := by
            have h5 := heq i hik
            have : dn L' i = false := by rw [← h5]; exact hun
            unfold dn at this
            rw [Array.getD_eq_getD_getElem?, Array.getElem?_eq_getElem (by omega)] at this
            rw [Array.getElem?_eq_getElem (by omega)]
            exact congrArg some this
          have hlt' : i < L'.toList.length := by simpa using (by omega : i < L'.size)
          have h1 : L'.toList[i] = false := by
            rw [Array.getElem?_eq_getElem (by omega)] at hget
            simpa using hget
          have h2' : 0 < L'.toList.count false := List.count_pos_iff.2 (by rw [← h1]; exact List.getElem_mem _)
          have h3' : (L'.setIfInBounds i true).toList.count false = L'.toList.count false - 1 := by
            rw [Array.toList_setIfInBounds, List.count_set hlt', h1]
            simp
          omega
end
section
variable {P : Program} {n0 : Nat} {X : List Nat} {ro : Option Nat}
theorem WpR.drawTail (hm : P.follows .mixedOrders = true) {id : Nat} {ops : Array Oper} {s : St} {Q : Ex → St → Prop} (k : Nat) (perm bs : List Nat) (hchk : chkD P (headA ops k) perm bs = true) (ht : tailOk ops k = true)
    (h : vcDs P (headA ops k) bs s.nt s.marks perm s.t s.h [] fun t' h' tr => stillAll h' tr.reverse tr.reverse ∧ vcOps2 P n0 X ro s.marks ops s.nt (ops.toList.drop k) t' h' fun t' h' => Q .normal ⟨t', s.nt, s.marks, h'⟩) : WpR P n0 X ro (.region id ops true) s Q := by
  obtain ⟨B0, hT⟩ := tailOk_spec ht
  have hk := hT.lt
  have hsz : (headA ops k).size = k := by unfold headA; simp; omega
  obtain ⟨t, nt, marks, hh⟩ := s
  obtain ⟨tr, t', h', hw, hl, hst, hQ⟩ := vcDs_sound h
  rw [List.append_nil, List.reverse_reverse] at hst
  have hc := chkD_spec hchk
  obtain ⟨B, hD⟩ := compD_spec hc
  rw [← hl] at hD
  refine ⟨fun base m0 h0 w0 rr a w hs => ?_⟩
  obtain ⟨m, hsw, hat, hro⟩ := hs
  refine wpIn_region_any hm ?_
  have hlen : ∀ x ∈ tr, x.1.1 < (headA ops k).size := fun x hx => by
    obtain ⟨o, h1, _⟩ := hD.mem x.1 (List.mem_map_of_mem hx)
    exact (Array.getElem?_eq_some_iff.1 h1).1
  have hfl : ∀ x ∈ tr, dn (Array.replicate (headA ops k).size false) x.1.1 = false := fun x hx => by
    unfold dn
    rw [Array.getD_eq_getD_getElem?, Array.getElem?_eq_getElem (by simpa using hlen x hx)]
    simp
  have hsr0 : SR base m hh w.drew m hh w.drew := .refl hat.hr.drew
  obtain ⟨g1, g2, g3⟩ := seg_sound (S := dn (Array.replicate (headA ops k).size false)) hw (fun x hx _ => hfl x hx) hsr0
  have key := draw_any (Sf := SfP P) (kf := 0) (fun s hs => hs _ _) (w0 := w.drew) hat.base hD rfl hw (fun e he f hf hwt => stillAll_spec hst e he f hf hwt (hw.read e he f hf hwt)) (rr := rr) (Q := tailQ (rf rr) 0 P ops k (PostR base n0 X m0 h0 w0 ro rr Q))
    (fun a' m' w' hsr htr hmk' => ⟨fun _ => ?_, fun hc => absurd rfl hc⟩) (headA ops k).size (Array.replicate (headA ops k).size false) a m { w with drawn := w.drawn + 1 } (by simp) ?_ ?_ ⟨g1, hat.tr.1, ?_, hat.mks, g3⟩
  · have := any_split hT (headA ops k).size (Array.replicate ops.size false) (Array.replicate (headA ops k).size false) a { w with drawn := w.drawn + 1 } (by simp) (by simp [hsz]) (fun i hi => ?_) (fun i hi1 hi2 => ?_) (fun i o ho hd => ?_) ?_ key
    · rw [hsz, show k + (ops.size - k) = ops.size from by omega] at this
      exact this
    · unfold dn
      rw [Array.getD_eq_getD_getElem?, Array.getD_eq_getD_getElem?, Array.getElem?_eq_getElem (by simp; omega), Array.getElem?_eq_getElem (by simp [hsz]; omega)]
      simp
    · unfold dn
      rw [Array.getD_eq_getD_getElem?, Array.getElem?_eq_getElem (by simp; omega)]
      simp
    · exfalso
      have := (Array.getElem?_eq_some_iff.1 ho).1
      unfold dn at hd
      rw [Array.getD_eq_getD_getElem?, Array.getElem?_eq_getElem (by simp; omega)] at hd
      simp at hd
    · simp
  · have hs' := SatR.step (s' := ⟨t', nt, marks, h'⟩) hsw hat hro hsr.of_drew htr hmk'
    have hlen2 : (ops.toList.drop k).length = ops.size - k := by simp
    have := vcOps2_sound (P := P) (n0 := n0) (X := X) (ops := ops) (nt := nt) (marks := marks) (Q := PostR base n0 X m0 h0 w0 ro rr Q) (ops.toList.drop k) k t' h' a' w' _ (fun j hj => by simp [List.getElem?_drop]) hQ hs' (fun t' h' a' w' hK hs' => ⟨.normal, _, hK, rfl, hs'⟩)
    rw [hlen2] at this
    exact this
  · simp
  · intro x hx hSx; rw [hfl x hx] at hSx; cases hSx
  · intro d v hd
    rw [curT_none (fun x hx _ => hfl x hx)] at hd
    exact hat.tr.2 d v hd
end
end Go.As
/- Slices that grow in a loop. -/
namespace Go.As
theorem avB_all {Y : List Nat} {c : Tr V} {w : Bool} {g : Option (Nat × Nat)} (h : allT (avV Y) c = true) : avB Y (.cells c w g) := fun k v hv => allT_get h k v hv
theorem ofL_bare {l : List V} (hb : ∀ v ∈ l, bare0 v = true) : ∀ i v, (ofL l 0).get i = some v → bare0 v = true := fun i v h => by
  rw [get_ofL] at h
  split at h
  · exact hb v (List.mem_of_getElem? h)
  · cases h
theorem avB_ofLb {Y : List Nat} {l : List V} {w : Bool} {g : Option (Nat × Nat)} (hb : ∀ v ∈ l, bare0 v = true) : avB Y (.cells (ofL l 0) w g) := fun k v hv => avV_bare0 (ofL_bare hb k v hv)
def subT (ρ : Nat → Nat) : Tr V → Tr V → Prop
  | .leaf, _ => True
  | .node l a r, .node l' a' r' => (match a with | some v => a' = some (renV ρ v) | none => True) ∧ subT ρ l l' ∧ subT ρ r r'
  | .node l a r, .leaf => (match a with | some _ => False | none => True) ∧ subT ρ l .leaf ∧ subT ρ r .leaf
theorem subT_get {ρ : Nat → Nat} : ∀ {t t' : Tr V}, subT ρ t t' → ∀ (i : Nat) (v : V), t.get i = some v → t'.get i = some (renV ρ v) := by
  intro t
  induction t with
  | leaf => intro t' _ i v h; rw [Tr.get_leaf] at h; cases h
  | node l a r ihl ihr =>
    intro t' h i v hv
    have hv' : @Bool.rec (fun _ => Option V) (@Bool.rec (fun _ => Option V) (r.get (Nat.sub (Nat.div i 2) 1)) (l.get (Nat.div i 2)) (Nat.beq (Nat.mod i 2) 1)) a (Nat.beq i 0) = some v := hv
    cases t' with
    | leaf =>
      obtain ⟨h1, h2, h3⟩ := h
      cases hb : Nat.beq i 0 with
      | true => rw [hb] at hv'; dsimp only at hv'; subst hv'; exact h1.elim
      | false =>
        rw [hb] at hv'
        cases hb2 : Nat.beq (Nat.mod i 2) 1 with
        | true => rw [hb2] at hv'; have := ihl h2 _ v hv'; rw [Tr.get_leaf] at this; cases this
        | false => rw [hb2] at hv'; have := ihr h3 _ v hv'; rw [Tr.get_leaf] at this; cases this
    | node l' a' r' =>
      obtain ⟨h1, h2, h3⟩ := h
      show @Bool.rec (fun _ => Option V) (@Bool.rec (fun _ => Option V) (r'.get (Nat.sub (Nat.div i 2) 1)) (l'.get (Nat.div i 2)) (Nat.beq (Nat.mod i 2) 1)) a' (Nat.beq i 0) = _
      cases hb : Nat.beq i 0 with
      | true => rw [hb] at hv'; dsimp only at hv' ⊢; subst hv'; exact h1
      | false =>
        rw [hb] at hv'
        cases hb2 : Nat.beq (Nat.mod i 2) 1 with
        | true => rw [hb2] at hv'; exact ihl h2 _ v hv'
        | false => rw [hb2] at hv'; exact ihr h3 _ v hv'
theorem SubQ.fin {ρ : Nat → Nat} {c c' : Tr V} {w w' : Bool} {g g' : Option (Nat × Nat)} (h : subT ρ c c') (hw : w = true → w' = true) (hg : g = none ∨ g = g') : SubQ ρ (.cells c w g) (.cells c' w' g') := .cells (fun k v hv => subT_get h k v hv) hw hg
def grV (b : Nat) : Nat → V
  | 0 => .nils
  | n + 1 => .sl b 0 (n + 1) (n + 1) false
noncomputable def grB (sz : Nat) (L : List V) : Nat → Blk
  | 0 => .dead
  | n + 1 => .cells (ofL L 0) true (some (sz, (n + 1) * sz))
theorem grV_lt {b n : Nat} (h : Nat.blt b n = true) : ∀ i, ltV n (grV b i) = true
  | 0 => rfl
  | _ + 1 => h
theorem grB_lt {sz n : Nat} {L : List V} (hb : ∀ v ∈ L, bare0 v = true) : ∀ i, ltB n (grB sz L i)
  | 0 => trivial
  | _ + 1 => ltB_ofLb hb
theorem app_nil {sz : Nat} {h : H} {n : Nat} {r : List V} {K : V → H → Prop} (hn : 0 < n) (hs : n ≤ 2 ^ 20)
    (hK : newP h (.cells (ofL r 0) true (some (sz, n * sz))) fun N h' => K (.sl N 0 n n false) h') : som (appendTo sz h n r .nils) fun q => K q.1 q.2 := by
  rw [newP_eq] at hK
  refine som_mk (a := (.sl h.n 0 n n false, h.new (.cells (ofL r 0) true (some (sz, n * sz))))) ?_ hK
  unfold appendTo
  rw [if_neg (by omega), if_pos hs]
theorem AppX.nil {sz : Nat} {h : H} {n : Nat} {r : List V} {K : V → H → Prop} (hn : 0 < n) (hs : n ≤ 2 ^ 20)
    (hK : newP h (.cells (ofL r 0) true (some (sz, n * sz))) fun N h' => K (.sl N 0 n n false) h') : AppX sz h n r .nils K := .all (app_nil hn hs hK)
theorem AppX.own {sz : Nat} {h : H} {n len b : Nat} {r L : List V} {K : V → H → Prop} (hg : h.get b = some (.cells (ofL L 0) true (some (sz, len * sz)))) (hL : L.length = len * sz) (ho : L.all one = true) (hn : 0 < n) (hs : len + n ≤ 2 ^ 20)
    (hK : newP (h.put b .dead) (.cells (ofL (L ++ r) 0) true (some (sz, (len + n) * sz))) fun N h' => K (.sl N 0 (len + n) (len + n) false) h') : AppX sz h n r (.sl b 0 len len false) K := .all (app_own hg hL ho hn hs hK)
theorem AppX.copy {sz : Nat} {h : H} {n len b o : Nat} {r L : List V} {c : Tr V} {w : Bool} {g : Option (Nat × Nat)} {K : V → H → Prop} (hg : h.get b = some (.cells c w g)) (hc : getN c (len * sz) o = some L) (ho : L.all one = true) (hn : 0 < n) (hs : len + n ≤ 2 ^ 20)
    (hK : newP h (.cells (ofL (L ++ r) 0) true (some (sz, (len + n) * sz))) fun N h' => K (.sl N 0 (len + n) (len + n) false) h') : AppX sz h n r (.sl b o len len true) K := .all (app_copy hg hc ho hn hs hK)
end Go.As
/- What nobody writes any more: what is handed back, taken for a value; the arguments of a law. -/
namespace Go.As
section
variable {P : Program}
inductive Fz (n0 : Nat) (news : List Blk) : V → V → Prop
  | same {v : V} (h : ltV n0 v = true) : Fz n0 news v v
  | nil {ex : Bool} {sz : Nat} {g : Nat → List V} : Fz n0 news .nils (.rsl ex sz 0 g)
  | sl {b i o len cap sz : Nat} {ex ex' : Bool} {g : Nat → List V} {c : Tr V} {gg : Option (Nat × Nat)} (hb : b = n0 + i) (h : news[i]? = some (.cells c true gg)) (he : ex' = true → ex = true ∧ cap = len) (hcap : len ≤ cap)
      (hl : ∀ j, j < len → (g j).length = sz) (hg : ∀ j, j < len → ∀ (k : Nat) (v : V), (g j)[k]? = some v → c.get (o + j * sz + k) = some v ∧ bare0 v = true) : Fz n0 news (.sl b o len cap ex) (.rsl ex' sz len g)
  | tup {l l' : List V} (hl : l.length = l'.length) (h : ∀ (i : Nat) (v v' : V), l[i]? = some v → l'[i]? = some v' → Fz n0 news v v') : Fz n0 news (.tup l) (.tup l')
  | agg {l l' : List V} (hl : l.length = l'.length) (h : ∀ (i : Nat) (v v' : V), l[i]? = some v → l'[i]? = some v' → Fz n0 news v v') : Fz n0 news (.agg l) (.agg l')
inductive FzL (n0 : Nat) (news : List Blk) : List V → List V → Prop
  | nil : FzL n0 news [] []
  | cons {v v' : V} {l l' : List V} (h : Fz n0 news v v') (hs : FzL n0 news l l') : FzL n0 news (v :: l) (v' :: l')
theorem FzL.all {n0 : Nat} {news : List Blk} {l l' : List V} (h : FzL n0 news l l') : l.length = l'.length ∧ ∀ (i : Nat) (v v' : V), l[i]? = some v → l'[i]? = some v' → Fz n0 news v v' := by
  induction h with
  | nil => exact ⟨rfl, fun i v v' h => by simp at h⟩
  | cons h _ ih =>
    refine ⟨by simp [ih.1], fun i v v' hv hv' => ?_⟩
    cases i with
    | zero => simp at hv hv'; subst hv; subst hv'; exact h
    | succ i => exact ih.2 i v v' (by simpa using hv) (by simpa using hv')
theorem FzL.tup {n0 : Nat} {news : List Blk} {l l' : List V} (h : FzL n0 news l l') : Fz n0 news (.tup l) (.tup l') := .tup h.all.1 h.all.2
theorem FzL.agg {n0 : Nat} {news : List Blk} {l l' : List V} (h : FzL n0 news l l') : Fz n0 news (.agg l) (.agg l') := .agg h.all.1 h.all.2
theorem VR.fr_bare {m : M} {v : V} {x : Value} (h : VR m v x) (hb : bare0 v = true) : FR m.fz v x := by
  cases h with
  | bool b => exact .bool b
  | int k n => exact .int k n
  | str s => exact .str s
  | nilp => exact .nilp
  | nils => exact .nils
  | nilm => exact .nilm
  | nilf => exact .nilf
  | rsl h => exact h
  | rptr h => exact h
  | _ => cases hb
open Classical in
noncomputable def fzOf (m' : M) (n0 n1 : Nat) (w : World) : FZ := fun r => match m'.fz r with
  | some p => some p
  | none => if ∃ i s, n0 ≤ i ∧ i < n1 ∧ m' i = some (r, s) then (match w.heap[r]? with | some (.cells a _ p) => some (some (a, p)) | some (.deferred (some [])) => some none | _ => none) else none
theorem fzOf_ext {m' : M} {n0 n1 : Nat} {w : World} : ∀ r p, m'.fz r = some p → fzOf m' n0 n1 w r = some p := fun r p h => by unfold fzOf; rw [h]
theorem fzOf_new {m' : M} {n0 n1 : Nat} {w : World} {r i : Nat} {s : Nat × Nat} {a : Array Value} {e : TypeId} {p : Nat × Nat} (hz : m'.fz r = none) (h0 : n0 ≤ i) (h1 : i < n1) (hm : m' i = some (r, s)) (hw : w.heap[r]? = some (.cells a e p)) : fzOf m' n0 n1 w r = some (some (a, p)) := by
  unfold fzOf; rw [hz]; dsimp only; rw [if_pos ⟨i, s, h0, h1, hm⟩, hw]
theorem fzOf_inv {m' : M} {n0 n1 : Nat} {w : World} {r : Nat} {p : Option FA} (h : fzOf m' n0 n1 w r = some p) : m'.fz r = some p ∨ ((∃ i s, n0 ≤ i ∧ i < n1 ∧ m' i = some (r, s)) ∧ FzO p (w.heap[r]?)) := by
  unfold fzOf at h
  cases hz : m'.fz r with
  | some q => rw [hz] at h; exact .inl h
  | none =>
    rw [hz] at h
    dsimp only at h
    split at h
    · rename_i hex
      split at h
      · rename_i a e q hw
        cases h
        exact .inr ⟨hex, by rw [hw]; exact ⟨e, rfl⟩⟩
      · rename_i hw
        cases h
        exact .inr ⟨hex, hw⟩
      · cases h
    · cases h
theorem CallOk.freeze {f : FuncId} {args : List V} {h : H} {vR v : V} {news : List Blk} (hc : CallOk P f args h vR (addBs h news)) (hf : Fz h.n news vR v) (hn : ∀ b ∈ news, b.wr = true) : CallOk P f args h v h := by
  intro base m w xs hr hB hvs
  obtain ⟨hfn, hcalls⟩ := hc base m w xs hr hB hvs
  refine ⟨hfn, CallsIn.mono hcalls ?_⟩
  rintro e w' ⟨m', x, rfl, hs, hv⟩
  have hget := fun i => addBs_get news h i hr.lt
  have hold : ∀ i b, h.get i = some b → (addBs h news).get i = some b := fun i b hi => by rw [hget, if_pos (hr.lt i b hi)]; exact hi
  have hnew : ∀ i b, news[i]? = some b → (addBs h news).get (h.n + i) = some b := fun i b hi => by rw [hget, if_neg (by omega), Nat.add_sub_cancel_left]; exact hi
  have hinv : ∀ i, h.n ≤ i → i < h.n + news.length → ∃ b, (addBs h news).get i = some b ∧ b.wr = true := by
    intro i h0 h1
    have hlt : i - h.n < news.length := by omega
    refine ⟨news[i - h.n], ?_, hn _ (List.getElem_mem hlt)⟩
    have := hnew (i - h.n) _ (List.getElem?_eq_getElem hlt)
    rwa [show h.n + (i - h.n) = i from by omega] at this
  let z := fzOf m' h.n (h.n + news.length) w'
  let m2 : M := ⟨m.pl, z⟩
  have hext : Ext m m2 := ⟨fun _ _ h => h, fun r p hp => fzOf_ext r p (hs.ext.fz r p hp)⟩
  have hw2 : Ext (m.wide m') m2 := ⟨fun _ _ h => h, fun r p hp => fzOf_ext r p hp⟩
  refine ⟨m2, x, rfl, ?_, ?_⟩
  · exact {
      ext := hext
      new := fun i p h1 h2 => by have h1' : m i = some p := h1; rw [h1'] at h2; cases h2
      hr := {
        blk := fun i b r s hi hm => ((hr.blk i b r s hi hm).back hs.ext (hs.hr.blk i b r s (hold i b hi) (hs.ext _ _ hm))).mono hw2
        inj := hr.inj
        own := hr.own
        rng := fun i r s hm => Nat.lt_of_lt_of_le (hr.rng i r s hm) hs.size
        lt := hr.lt
        dom := hr.dom
        frz := fun r p hp => by
          rcases fzOf_inv hp with h1 | ⟨_, h1⟩
          · exact hs.hr.frz r p h1
          · exact h1
        nfz := fun i b r s hi hw hm => by
          cases hz : z r with
          | none => exact hz
          | some p =>
            exfalso
            rcases fzOf_inv hz with h1 | ⟨⟨j, sj, j0, j1, hj⟩, _⟩
            · have := hs.hr.nfz i b r s (hold i b hi) hw (hs.ext _ _ hm)
              rw [h1] at this; cases this
            · obtain ⟨bj, hbj, hwj⟩ := hinv j j0 j1
              have := hs.hr.inj i j b bj r s sj (hold i b hi) hbj hw (Blk.live_of_wr hwj) (hs.ext _ _ hm) hj
              have := hr.lt i b hi
              omega }
      n := Nat.le_refl _
      os := hs.os
      tape := hs.tape
      output := hs.output
      size := hs.size
      frame := hs.frame
      fresh := fun i b r s hi hw hm => .inr ⟨i, b, s, hi, hw, hm⟩
      low := fun _ _ _ => rfl
      lowle := Nat.le_refl _
      keep := fun _ _ _ => rfl
      fzn := fun r p hp => by
        rcases fzOf_inv hp with h1 | ⟨⟨i, s, i0, i1, hi⟩, _⟩
        · exact hs.fzn r p h1
        · obtain ⟨bi, hbi, hwi⟩ := hinv i i0 i1
          rcases hs.fresh i bi r s hbi hwi hi with h2 | ⟨j, bj, sj, hj, hwj, hmj⟩
          · exact .inr (.inl h2)
          · have := hs.hr.inj i j bi bj r s sj hbi (hold j bj hj) hwi (Blk.live_of_wr hwj) hi (hs.ext _ _ hmj)
            have := hr.lt j bj hj
            omega }
  · -- the value
    have key : ∀ {u v : V}, Fz h.n news u v → ∀ {x : Value}, VR m' u x → VR m2 v x := by
      intro u v hf
      induction hf with
      | @same u hl =>
        intro x hx
        have hst : ∀ i, i < h.n → ∀ p, m' i = some p → m2 i = some p := by
          intro i hi p hp
          cases hmi : m i with
          | some q => have := hs.ext i q hmi; rw [hp] at this; cases this; rfl
          | none => have := hs.new i p hp hmi; omega
        have := VR.ren' (m := m2) (m1 := m') (ρ := fun i => i) (n := h.n) (fun r p hp => fzOf_ext r p hp) hst u hl hx
        rwa [renV_id (n := h.n) (fun _ _ => rfl) u hl] at this
      | nil => intro x hx; cases hx; exact .rsl .rsl0
      | @sl b i o len cap sz ex ex' g c gg hb hi he hcap hl hg =>
        intro x hx
        subst hb
        have hlt : i < news.length := (List.getElem?_eq_some_iff.1 hi).1
        have hbi := hnew i _ hi
        cases hx with
        | sl hm hc =>
          rename_i r cap' s
          obtain ⟨a, e, lo, hh, ho, hcs, _⟩ := hs.hr.blk _ _ r s hbi hm
          have hz : z r = some (some (a, lo, hh)) := fzOf_new (hs.hr.nfz _ _ r s hbi rfl hm) (by omega) (by omega) hm ho
          refine .rsl (.rsl hz (by rw [hc]; split <;> omega) (fun h1 => ?_) hl (fun j hj k v hk => ?_) (fun j hj k v y hk hy => ?_))
          · obtain ⟨e1, e2⟩ := he h1; rw [hc, if_pos e1, e2]
          · obtain ⟨g1, g2⟩ := hg j hj k v hk
            obtain ⟨k1, ⟨y, hy, _⟩, k3⟩ := hcs _ v g1
            exact ⟨k1, ⟨y, by rw [← hy]; congr 1; omega⟩, by rwa [show s.1 + o + j * sz + k = s.1 + (o + j * sz + k) from by omega]⟩
          · obtain ⟨g1, g2⟩ := hg j hj k v hk
            obtain ⟨k1, ⟨y', hy', hv'⟩, k3⟩ := hcs _ v g1
            have e1 : s.1 + o + j * sz + k = s.1 + (o + j * sz + k) := by omega
            rw [e1] at hy
            have hy2 : a[s.1 + (o + j * sz + k)]? = some y := hy
            rw [hy'] at hy2; cases hy2
            exact (hv'.fr_bare g2).mono (fun r p hp => fzOf_ext r p hp)
        | sl0 hm =>
          rename_i r ad s
          obtain ⟨a, e, lo, hh, ho, hcs, _⟩ := hs.hr.blk _ _ r s hbi hm
          have hz : z r = some (some (a, lo, hh)) := fzOf_new (hs.hr.nfz _ _ r s hbi rfl hm) (by omega) (by omega) hm ho
          exact .rsl (.rsl hz (Nat.le_refl _) (fun _ => rfl) (fun j hj => by omega) (fun j hj => by omega) (fun j hj => by omega))
      | @tup l l' hl _ ih =>
        intro x hx
        cases hx with
        | tup h1 h2 =>
          refine .tup (by rw [← hl]; exact h1) (fun k v' x hv' hx => ?_)
          have hk : k < l.length := by rw [hl]; exact (List.getElem?_eq_some_iff.1 hv').1
          exact ih k l[k] v' (List.getElem?_eq_getElem hk) hv' (h2 k _ x (List.getElem?_eq_getElem hk) hx)
      | @agg l l' hl _ ih =>
        intro x hx
        cases hx with
        | agg h1 h2 =>
          refine .agg (by rw [← hl]; exact h1) (fun k v' x hv' hx => ?_)
          have hk : k < l.length := by rw [hl]; exact (List.getElem?_eq_some_iff.1 hv').1
          exact ih k l[k] v' (List.getElem?_eq_getElem hk) hv' (h2 k _ x (List.getElem?_eq_getElem hk) hx)
    exact key hf hv
end
section
variable {P : Program}
inductive FzS (n0 : Nat) (news news' : List Blk) : V → V → Prop
  | same {v : V} : FzS n0 news news' v v
  | sl {b i o len cap sz : Nat} {ex ex' : Bool} {g : Nat → List V} {c : Tr V} {gg : Option (Nat × Nat)} (hb : b = n0 + i) (h : news[i]? = some (.cells c true gg)) (hd : news'[i]? = some .dead) (he : ex' = true → ex = true ∧ cap = len) (hcap : len ≤ cap)
      (hl : ∀ j, j < len → (g j).length = sz) (hg : ∀ j, j < len → ∀ (k : Nat) (v : V), (g j)[k]? = some v → c.get (o + j * sz + k) = some v ∧ bare0 v = true) : FzS n0 news news' (.sl b o len cap ex) (.rsl ex' sz len g)
  | tup {l l' : List V} (hl : l.length = l'.length) (h : ∀ (i : Nat) (v v' : V), l[i]? = some v → l'[i]? = some v' → FzS n0 news news' v v') : FzS n0 news news' (.tup l) (.tup l')
  | agg {l l' : List V} (hl : l.length = l'.length) (h : ∀ (i : Nat) (v v' : V), l[i]? = some v → l'[i]? = some v' → FzS n0 news news' v v') : FzS n0 news news' (.agg l) (.agg l')
inductive FzSL (n0 : Nat) (news news' : List Blk) : List V → List V → Prop
  | nil : FzSL n0 news news' [] []
  | cons {v v' : V} {l l' : List V} (h : FzS n0 news news' v v') (hs : FzSL n0 news news' l l') : FzSL n0 news news' (v :: l) (v' :: l')
theorem FzSL.all {n0 : Nat} {news news' : List Blk} {l l' : List V} (h : FzSL n0 news news' l l') : l.length = l'.length ∧ ∀ (i : Nat) (v v' : V), l[i]? = some v → l'[i]? = some v' → FzS n0 news news' v v' := by
  induction h with
  | nil => exact ⟨rfl, fun i v v' h => by simp at h⟩
  | cons h _ ih =>
    refine ⟨by simp [ih.1], fun i v v' hv hv' => ?_⟩
    cases i with
    | zero => simp at hv hv'; subst hv; subst hv'; exact h
    | succ i => exact ih.2 i v v' (by simpa using hv) (by simpa using hv')
theorem FzSL.tup {n0 : Nat} {news news' : List Blk} {l l' : List V} (h : FzSL n0 news news' l l') : FzS n0 news news' (.tup l) (.tup l') := .tup h.all.1 h.all.2
theorem FzSL.agg {n0 : Nat} {news news' : List Blk} {l l' : List V} (h : FzSL n0 news news' l l') : FzS n0 news news' (.agg l) (.agg l') := .agg h.all.1 h.all.2
open Classical in
end
theorem ShV.fn {vs : Vw} {n0 N k : Nat} {f : FuncId} {a a' b b' : List V} (ha : ShL vs n0 N k a a') (hb : ShL vs n0 N k b b') : ShV vs n0 N k (.fn f a b) (.fn f a' b') := by
  intro m1 m2 hm x hx
  cases hx with
  | fn la h1 lb h2 =>
    have v1 := ha.vrs hm la h1
    have v2 := hb.vrs hm lb h2
    exact .fn v1.1 v1.2 v2.1 v2.2
def zW (W : World) : FZ := fun r => match W.heap[r]? with
  | some (.cells a _ p) => some (some (a, p))
  | _ => none
theorem zW_ok (W : World) : ∀ r p, zW W r = some p → FzO p (W.heap[r]?) := by
  intro r p h
  unfold zW at h
  split at h
  · rename_i a e q hw; cases h; rw [hw]; exact ⟨e, rfl⟩
  · cases h
def mW (W : World) : M := ⟨fun _ => none, zW W⟩
theorem hrW (W : World) : HR W.heap.size (mW W) H.empty W := .emptyF (fun _ => rfl) (zW_ok W)
theorem zW_at {W : World} {r : Nat} {a : Array Value} {e : TypeId} {p : Nat × Nat} (h : W.heap[r]? = some (.cells a e p)) : zW W r = some (some (a, p)) := by unfold zW; rw [h]
theorem FR.ints {W : World} {k n : Nat} {f : Nat → Int} {g : Nat → List V} {blk off cap : Nat} {c : Array Value} {et : TypeId} {lo hi : Nat} (hle : n ≤ cap) (hb : W.heap[blk]? = some (.cells c et (lo, hi)))
    (hc : ∀ i, i < n * k → c[off + i]? = some (.int .i64 (f i)) ∧ InR (f i) ∧ ¬(lo ≤ off + i ∧ off + i < hi))
    (hg : ∀ i, i < n → (g i).length = k ∧ ∀ (j : Nat) (v : V), (g i)[j]? = some v → v = .int .i64 (f (i * k + j))) : FR (zW W) (.rsl false k n g) (.slice (some ⟨blk, off, none⟩) n cap) := by
  have key : ∀ i, i < n → ∀ (j : Nat) (v : V), (g i)[j]? = some v → v = .int .i64 (f (i * k + j)) ∧ c[off + i * k + j]? = some (.int .i64 (f (i * k + j))) ∧ ¬(lo ≤ off + i * k + j ∧ off + i * k + j < hi) := by
    intro i hi' j v hv
    obtain ⟨g1, g2⟩ := hg i hi'
    have hj : j < k := by rw [← g1]; exact (List.getElem?_eq_some_iff.1 hv).1
    have hlt : i * k + j < n * k := by
      have : (i + 1) * k ≤ n * k := Nat.mul_le_mul_right k hi'
      rw [Nat.succ_mul] at this; omega
    obtain ⟨h1, _, h3⟩ := hc _ hlt
    rw [← Nat.add_assoc] at h1 h3
    exact ⟨g2 j v hv, h1, h3⟩
  refine .rsl (zW_at hb) hle (fun h => by cases h) (fun i hi' => (hg i hi').1) (fun i hi' j v hv => ?_) (fun i hi' j v x hv hx => ?_)
  · obtain ⟨h1, h2, h3⟩ := key i hi' j v hv
    subst h1
    exact ⟨rfl, ⟨_, h2⟩, h3⟩
  · obtain ⟨h1, h2, h3⟩ := key i hi' j v hv
    have hx' : c[off + i * k + j]? = some x := hx
    rw [h2] at hx'
    cases hx'
    subst h1
    exact .int _ _
end Go.As
/- Lists that grow by appends, whatever their elements are; arrays that are filled. -/
namespace Go.As
section
variable {α : Type}
def gR (e : α → List V) : List α → List V
  | [] => []
  | x :: l => gR e l ++ e x
theorem gR_len {e : α → List V} {sz : Nat} (he : ∀ x, (e x).length = sz) : ∀ l : List α, (gR e l).length = l.length * sz
  | [] => by simp [gR]
  | x :: l => by
    show (gR e l ++ e x).length = _
    rw [List.length_append, gR_len he l, he, List.length_cons, Nat.succ_mul]
theorem gR_mem {e : α → List V} {v : V} : ∀ {l : List α}, v ∈ gR e l → ∃ x, x ∈ l ∧ v ∈ e x
  | x :: l, h => by
    rcases List.mem_append.1 (show v ∈ gR e l ++ e x from h) with h | h
    · obtain ⟨y, h1, h2⟩ := gR_mem h; exact ⟨y, List.mem_cons_of_mem _ h1, h2⟩
    · exact ⟨x, List.mem_cons_self .., h⟩
theorem gR_bare {e : α → List V} (hb : ∀ x, ∀ v ∈ e x, bare0 v = true) {l : List α} : ∀ v ∈ gR e l, bare0 v = true := fun v h => by
  obtain ⟨x, _, h2⟩ := gR_mem h
  exact hb x v h2
theorem one_of_bare {v : V} (h : bare0 v = true) : one v = true := by cases v <;> first | rfl | cases h
theorem gR_one {e : α → List V} (hb : ∀ x, ∀ v ∈ e x, bare0 v = true) (l : List α) : (gR e l).all one = true := List.all_eq_true.2 fun v h => one_of_bare (gR_bare hb v h)
theorem AppX.gr {sz : Nat} {h : H} {n len b : Nat} {r L : List V} {K : V → H → Prop} (hlow : Nat.ble h.low b = true) (hg : h.get b = some (grB sz L len)) (hL : L.length = len * sz) (ho : L.all one = true) (hn : 0 < n) (hs : len + n ≤ 2 ^ 20)
    (hK : newP (h.put b .dead) (.cells (ofL (L ++ r) 0) true (some (sz, (len + n) * sz))) fun N h' => K (.sl N 0 (len + n) (len + n) false) h') : AppX sz h n r (grV b len) K := by
  cases len with
  | zero =>
    have hL0 : L = [] := List.eq_nil_of_length_eq_zero (by rw [hL, Nat.zero_mul])
    subst hL0
    have e : h.put b .dead = h := by
      obtain ⟨t, m, l⟩ := h
      have hg' : t.get b = some .dead := hg
      have hl' : Nat.ble l b = true := hlow
      show H.mk (t.set b .dead) m (match Nat.ble l b with | true => l | false => b) = _
      rw [Tr.set_self hg', hl']
    rw [e, Nat.zero_add] at hK
    exact AppX.nil hn (by omega) hK
  | succ len => exact AppX.own hg hL ho hn hs hK
theorem avB_loop {Y : List Nat} {lp : Lp} (h1 : memB Y lp.defers = false) (h2 : allT (avV Y) lp.tmps = true) : avB Y (.loop lp) := ⟨h1, fun k v hv => allT_get h2 k v hv⟩
theorem gr_av {Y : List Nat} {sz len : Nat} {L : List V} (hb : ∀ v ∈ L, bare0 v = true) : avB Y (grB sz L len) := by
  cases len with
  | zero => trivial
  | succ len => exact avB_ofLb hb
theorem gr_ren {ρ : Nat → Nat} {b n : Nat} (h : ρ b = b) : some (grV b n) = some (renV ρ (grV b n)) := by
  cases n with
  | zero => rfl
  | succ n => show _ = some (V.sl (ρ b) 0 (n + 1) (n + 1) false); rw [h]; rfl
theorem gr_keep {ρ : Nat → Nat} {sz len : Nat} {L : List V} {o : Option Blk} (hb : ∀ v ∈ L, bare0 v = true) (ho : o = some (grB sz L len)) : grB sz L len = .dead ∨ ∃ b', o = some b' ∧ SubQ ρ (grB sz L len) b' := by
  cases len with
  | zero => exact .inl rfl
  | succ len => exact .inr ⟨_, ho, SubQ.ofL rfl hb (.inr rfl)⟩
def arrV (N : Nat) (f : Nat → V) : List V := (List.range N).map f
theorem arrV_at {N w : Nat} {f : Nat → V} (h : w < N) : (arrV N f)[w]? = some (f w) := by unfold arrV; rw [List.getElem?_map, List.getElem?_range h]; rfl
theorem arrV_get {N w o : Nat} {f : Nat → V} (ho : o = w) (h : w < N) : (ofL (arrV N f) 0).get o = some (f w) := by subst ho; exact get_ofL0 (arrV_at h)
theorem arrV_bare {N : Nat} {f : Nat → V} (hf : ∀ i, bare0 (f i) = true) : ∀ v ∈ arrV N f, bare0 v = true := fun v h => by obtain ⟨x, _, rfl⟩ := List.mem_map.1 h; exact hf x
theorem arrV_eq {N : Nat} {f g : Nat → V} (h : ∀ c, c < N → f c = g c) : arrV N f = arrV N g := by
  unfold arrV
  exact List.map_congr_left fun c hc => h c (List.mem_range.1 hc)
end
end Go.As
/- A closed run whose answer tells of new blocks, known in every memory. -/
namespace Go.As
abbrev NB := List V × Option (Nat × Nat)
noncomputable def NB.blk (b : NB) : Blk := .cells (ofL b.1 0) true b.2
section
variable {P : Program}
end
end Go.As
namespace Go.As
theorem Back.auto {s0 : St} {Y keep : List Nat} {tv : List (Nat × V)} {hv : List (Nat × Blk)} {n1 : Nat} {dd : List Nat} {rl : List (Nat × Nat)} {s : St} (nt : s.nt = s0.nt := by rfl) (marks : s.marks = s0.marks := by rfl) (kt : keepTs s0.t s.t keep := by exact (by (repeat' (first | exact True.intro | rfl | exact gr_ren rfl | exact aV_ren rfl | exact aW_ren rfl rfl | refine And.intro ?_ ?_)))) (et : eqTs (rho rl) s.t tv := by exact (by (repeat' (first | exact True.intro | rfl | exact gr_ren rfl | exact aV_ren rfl | exact aW_ren rfl rfl | refine And.intro ?_ ?_))))
    (kb : keepBs s0.h s.h (hv.map (·.1)) s0.h.n := by exact (by (repeat' (first | exact True.intro | rfl | exact gr_ren rfl | exact aV_ren rfl | exact aW_ren rfl rfl | refine And.intro ?_ ?_)))) (eb : eqBs (rho rl) s.h hv := by exact (by (repeat' (first | exact True.intro | exact Or.inl rfl | exact gr_keep (by first | exact gI_bare _ | exact gT_bare _ | exact gP_bare _) rfl | exact aB_keep (gT_bare _) rfl | exact aC_keep (gT_bare _) rfl | (refine Or.inr ⟨_, rfl, ?_⟩; exact hgs _) | refine And.intro ?_ ?_ | refine Or.inr ⟨_, rfl, ?_⟩ | exact SubQ.same (n := 1000) (Y := []) (fun _ _ _ => rfl) (by first | exact True.intro | exact ltB_all rfl | exact ltB_ofLb (by first | exact bare0_ints | assumption | exact gI_bare _ | exact gT_bare _ | exact gP_bare _ | exact bVs_bare | exact iVs_bare | exact mVs_bare | (intro v hv; (repeat (rcases List.mem_cons.1 hv with rfl | hv; exact rfl)); exact absurd hv (List.not_mem_nil))) | exact ltB_loop rfl rfl | exact hMap _ | exact hMap _ _ | exact hMap2 _ | exact hMap2 _ _ | exact hMapA _ | exact hMapA _ _ | exact hMapB _ | exact hMapB _ _ | exact hMapC _ | exact hMapC _ _ | exact hMapD _ | exact hMapD _ _ | exact grB_lt (by first | exact bare0_ints | assumption | exact gI_bare _ | exact gT_bare _ | exact gP_bare _ | exact bVs_bare | exact iVs_bare | exact mVs_bare | (intro v hv; (repeat (rcases List.mem_cons.1 hv with rfl | hv; exact rfl)); exact absurd hv (List.not_mem_nil))) _ | exact ltB_encL | exact ltB_map0 | assumption) (avB_nil _) rfl | exact SubQ.ofL (by first | rfl | simp) (by first | exact bare0_ints | assumption | exact gI_bare _ | exact gT_bare _ | exact gP_bare _ | exact bVs_bare | exact iVs_bare | exact mVs_bare | (intro v hv; (repeat (rcases List.mem_cons.1 hv with rfl | hv; exact rfl)); exact absurd hv (List.not_mem_nil))) (by first | exact Or.inl rfl | exact Or.inr rfl) | exact SubQ.fin (by (conv => whnf); (repeat' (first | exact True.intro | rfl | exact gr_ren rfl | exact aV_ren rfl | exact aW_ren rfl rfl | refine And.intro ?_ ?_)); done) (fun h => h) (by first | exact Or.inl rfl | exact Or.inr rfl))))) (rge : rlGe s0.h.n Y rl = true := by rfl) (inj : injB rl dd n1 = true := by rfl) : Back s0 Y keep tv hv n1 dd rl s := ⟨nt, marks, kt, et, kb, eb, rge, inj⟩
section
variable {P : Program}
theorem WpR.loopA {n0 : Nat} {X : List Nat} {ro : Option Nat} {ι : Type} {c : Code} {s0 : St} {Q : Ex → St → Prop} (Y keep : List Nat) (ids dd : List Nat) (n1 : Nat) (tv : ι → List (Nat × V)) (hv : ι → List (Nat × Blk)) (μ : ι → Nat) (J : ι → Prop)
    (hI : ∀ x, J x → WpR P n0 X ro c (stD s0 keep (tv x) (hv x) n1) (fun ex s' => match ex with | .normal => ∃ y rl, μ y < μ x ∧ J y ∧ Back s0 Y keep (tv y) (hv y) n1 dd rl s' | ex => Q ex s'))
    (x0 : ι) (h0 : J x0) (rl0 : List (Nat × Nat)) (hb : Back s0 Y keep (tv x0) (hv x0) n1 dd rl0 s0)
    (hY : mayMove n0 X ro s0.marks Y = true := by rfl) (hYs : (Y.all fun i => memB ids i) = true := by rfl) (hn1 : Nat.ble s0.h.n n1 = true := by rfl) (hids : ∀ x, (hv x).map (·.1) = ids := by exact fun _ => rfl) (hka : keepAv Y s0.t keep := by exact (by (repeat' (first | exact True.intro | refine And.intro ?_ ?_ | exact avV_nil _ | rfl)))) (hwf : wfBs s0.h.n Y s0.h ids s0.h.n := by exact (by (repeat' (first | exact True.intro | (with_reducible exact avB_nil _) | ((with_reducible refine avB_all ?_); rfl) | ((with_reducible refine avB_ofLb ?_); exact (by first | exact bare0_ints | assumption | exact gI_bare _ | exact gT_bare _ | exact gP_bare _ | exact bVs_bare | exact iVs_bare | exact mVs_bare | (intro v hv; (repeat (rcases List.mem_cons.1 hv with rfl | hv; exact rfl)); exact absurd hv (List.not_mem_nil)))) | ((with_reducible refine gr_av ?_); exact (by first | exact bare0_ints | assumption | exact gI_bare _ | exact gT_bare _ | exact gP_bare _ | exact bVs_bare | exact iVs_bare | exact mVs_bare | (intro v hv; (repeat (rcases List.mem_cons.1 hv with rfl | hv; exact rfl)); exact absurd hv (List.not_mem_nil)))) | ((with_reducible refine aC_av ?_); exact (by first | exact bare0_ints | assumption | exact gI_bare _ | exact gT_bare _ | exact gP_bare _ | exact bVs_bare | exact iVs_bare | exact mVs_bare | (intro v hv; (repeat (rcases List.mem_cons.1 hv with rfl | hv; exact rfl)); exact absurd hv (List.not_mem_nil)))) | ((with_reducible refine avB_loop ?_ ?_) <;> rfl) | ((with_reducible refine ltB_all ?_); rfl) | ((with_reducible refine ltB_ofLb ?_); exact (by first | exact bare0_ints | assumption | exact gI_bare _ | exact gT_bare _ | exact gP_bare _ | exact bVs_bare | exact iVs_bare | exact mVs_bare | (intro v hv; (repeat (rcases List.mem_cons.1 hv with rfl | hv; exact rfl)); exact absurd hv (List.not_mem_nil)))) | ((with_reducible refine ltB_loop ?_ ?_) <;> rfl) | (with_reducible exact hMap _) | (with_reducible exact hMap _ _) | (with_reducible exact hMap2 _) | (with_reducible exact hMap2 _ _) | (with_reducible exact hMapA _) | (with_reducible exact hMapA _ _) | (with_reducible exact hMapB _) | (with_reducible exact hMapB _ _) | (with_reducible exact hMapC _) | (with_reducible exact hMapC _ _) | (with_reducible exact hMapD _) | (with_reducible exact hMapD _ _) | (with_reducible exact ltB_encL) | (with_reducible exact ltB_map0) | ((with_reducible refine grB_lt ?_ _); exact (by first | exact bare0_ints | assumption | exact gI_bare _ | exact gT_bare _ | exact gP_bare _ | exact bVs_bare | exact iVs_bare | exact mVs_bare | (intro v hv; (repeat (rcases List.mem_cons.1 hv with rfl | hv; exact rfl)); exact absurd hv (List.not_mem_nil)))) | (with_reducible assumption) | refine And.intro ?_ ?_ | exact (by first | exact True.intro | exact ltB_all rfl | exact ltB_ofLb (by first | exact bare0_ints | assumption | exact gI_bare _ | exact gT_bare _ | exact gP_bare _ | exact bVs_bare | exact iVs_bare | exact mVs_bare | (intro v hv; (repeat (rcases List.mem_cons.1 hv with rfl | hv; exact rfl)); exact absurd hv (List.not_mem_nil))) | exact ltB_loop rfl rfl | exact hMap _ | exact hMap _ _ | exact hMap2 _ | exact hMap2 _ _ | exact hMapA _ | exact hMapA _ _ | exact hMapB _ | exact hMapB _ _ | exact hMapC _ | exact hMapC _ _ | exact hMapD _ | exact hMapD _ _ | exact grB_lt (by first | exact bare0_ints | assumption | exact gI_bare _ | exact gT_bare _ | exact gP_bare _ | exact bVs_bare | exact iVs_bare | exact mVs_bare | (intro v hv; (repeat (rcases List.mem_cons.1 hv with rfl | hv; exact rfl)); exact absurd hv (List.not_mem_nil))) _ | exact ltB_encL | exact ltB_map0 | assumption)))))
    (htv : ∀ x, J x → ltTs n1 (tv x) := by exact fun _ _ => (by (repeat' (first | exact True.intro | rfl | refine And.intro ?_ ?_ | exact (by decide) | exact (by first | exact True.intro | exact hMap _ | exact hMap _ _ | exact hMap2 _ | exact hMap2 _ _ | exact hMapA _ | exact hMapA _ _ | exact hMapB _ | exact hMapB _ _ | exact hMapC _ | exact hMapC _ _ | exact hMapD _ | exact hMapD _ _ | exact grB_lt (by first | exact bare0_ints | assumption | exact gI_bare _ | exact gT_bare _ | exact gP_bare _ | exact bVs_bare | exact iVs_bare | exact mVs_bare | (intro v hv; (repeat (rcases List.mem_cons.1 hv with rfl | hv; exact rfl)); exact absurd hv (List.not_mem_nil))) _ | exact ltB_all rfl | exact ltB_ofLb (by first | exact bare0_ints | assumption | exact gI_bare _ | exact gT_bare _ | exact gP_bare _ | exact bVs_bare | exact iVs_bare | exact mVs_bare | (intro v hv; (repeat (rcases List.mem_cons.1 hv with rfl | hv; exact rfl)); exact absurd hv (List.not_mem_nil))) | exact ltB_loop rfl rfl | exact ltB_encL | exact ltB_map0 | assumption))))) (hhv : ∀ x, J x → ltBs n1 (hv x) := by exact fun _ _ => (by (repeat' (first | exact True.intro | rfl | refine And.intro ?_ ?_ | exact (by decide) | exact (by first | exact True.intro | exact hMap _ | exact hMap _ _ | exact hMap2 _ | exact hMap2 _ _ | exact hMapA _ | exact hMapA _ _ | exact hMapB _ | exact hMapB _ _ | exact hMapC _ | exact hMapC _ _ | exact hMapD _ | exact hMapD _ _ | exact grB_lt (by first | exact bare0_ints | assumption | exact gI_bare _ | exact gT_bare _ | exact gP_bare _ | exact bVs_bare | exact iVs_bare | exact mVs_bare | (intro v hv; (repeat (rcases List.mem_cons.1 hv with rfl | hv; exact rfl)); exact absurd hv (List.not_mem_nil))) _ | exact ltB_all rfl | exact ltB_ofLb (by first | exact bare0_ints | assumption | exact gI_bare _ | exact gT_bare _ | exact gP_bare _ | exact bVs_bare | exact iVs_bare | exact mVs_bare | (intro v hv; (repeat (rcases List.mem_cons.1 hv with rfl | hv; exact rfl)); exact absurd hv (List.not_mem_nil))) | exact ltB_loop rfl rfl | exact ltB_encL | exact ltB_map0 | assumption))))) (hdd : ∀ x, J x → deadBs dd (hv x) := by exact fun _ _ => (by (repeat' (first | exact True.intro | rfl | exact gr_ren rfl | exact aV_ren rfl | exact aW_ren rfl rfl | refine And.intro ?_ ?_))))
    (hds : (dd.all fun i => memB ids i) = true := by rfl) : WpR P n0 X ro (.loop c) s0 Q := WpR.loopD Y keep ids dd n1 tv hv μ J hI x0 h0 rl0 hb hY hYs hn1 hids hka hwf htv hhv hdd hds
end
theorem condA {p : Prop} (hp : p := by first | (unfold InR; (try dsimp only); omega) | ((try dsimp only); omega) | ((conv => whnf); (repeat' (first | exact True.intro | rfl | refine And.intro ?_ ?_)); done)) : p := hp
theorem trivs {P : Prop} (h : P := by exact (by (repeat' (first | exact True.intro | rfl | refine And.intro ?_ ?_)))) : P := h
end Go.As
/- Calls that write to some blocks of the memory, where they are: known in a memory of these alone. -/
namespace Go.As
def lowOk (h' : H) : Nat → List Blk → Prop
  | _, [] => True
  | k, b :: l => (∃ b', h'.get k = some b' ∧ SubQ id b b') ∧ lowOk h' (k + 1) l
theorem lowOk_at {h' : H} : ∀ {l : List Blk} {k : Nat}, lowOk h' k l → ∀ (i : Nat) (b : Blk), l[i]? = some b → ∃ b', h'.get (k + i) = some b' ∧ SubQ id b b'
  | c :: l, k, ⟨h1, h2⟩, i, b, hb => by
    cases i with
    | zero => simp at hb; subst hb; exact h1
    | succ i => have := lowOk_at h2 i b (by simpa using hb); rwa [show k + 1 + i = k + (i + 1) from by omega] at this
structure LowK (v : V) (bs2 : List Blk) (v' : V) (h' : H) : Prop where
  val : v' = v
  mem : lowOk h' 0 bs2
def mvw (n : Nat) (ρ : Nat → Nat) (m : M) : M := ⟨fun k => if k < n then m (ρ k) else none, m.fz⟩
theorem mvw_at {n : Nat} {ρ : Nat → Nat} {m : M} {k : Nat} (h : k < n) : mvw n ρ m k = m (ρ k) := if_pos h
theorem mvw_some {n : Nat} {ρ : Nat → Nat} {m : M} {k : Nat} {p : Nat × Nat × Nat} (h : mvw n ρ m k = some p) : k < n ∧ m (ρ k) = some p := by
  by_cases hk : k < n
  · rw [mvw_at hk] at h; exact ⟨hk, h⟩
  · have : mvw n ρ m k = none := if_neg hk
    rw [this] at h; cases h
theorem mvw_ren (n : Nat) (ρ : Nat → Nat) (m : M) : RenM n ρ m (mvw n ρ m) := ⟨fun i hi => mvw_at hi, fun _ _ h => h⟩
theorem renL_at {ρ : Nat → Nat} : ∀ {l : List V} {k : Nat} {v : V}, l[k]? = some v → (renL ρ l)[k]? = some (renV ρ v)
  | a :: l, 0, v, h => by simp at h; subst h; rfl
  | a :: l, k + 1, v, h => by
    have h' : l[k]? = some v := by simpa using h
    show (renV ρ a :: renL ρ l)[k + 1]? = _
    rw [List.getElem?_cons_succ]
    exact renL_at h'
theorem renL_len {ρ : Nat → Nat} : ∀ l : List V, (renL ρ l).length = l.length
  | [] => rfl
  | a :: l => by show (renV ρ a :: renL ρ l).length = _; rw [List.length_cons, renL_len l, List.length_cons]
theorem VRs.mvw {n : Nat} {ρ : Nat → Nat} {m : M} {l : List V} {xs : List Value} (h : VRs m (renL ρ l) xs) (hl : As.ltL n l = true) : VRs (As.mvw n ρ m) l xs := by
  refine ⟨by rw [← h.1, renL_len], fun k v x hv hx => ?_⟩
  exact VR.ren (mvw_ren n ρ m) v (As.ltL_get hl k v hv) (h.2 k _ x (renL_at hv) hx)
inductive ImB (ρ : Nat → Nat) : Blk → Blk → Prop
  | cells {c cR : Tr V} {w : Bool} {g : Option (Nat × Nat)} (h : ∀ k v', cR.get k = some v' → ∃ v, c.get k = some v ∧ v' = renV ρ v) : ImB ρ (.cells c w g) (.cells cR w g)
  | map {es : List (Value × V × Nat)} {k : Nat} (h : ∀ e ∈ es, ltV 0 e.2.1 = true) : ImB ρ (.map es k) (.map es k)
theorem one_ren {ρ : Nat → Nat} {v : V} (h : one v = true) : one (renV ρ v) = true := by cases v <;> simp [renV, one] at h ⊢
theorem ImB.BR {ρ : Nat → Nat} {n : Nat} {b bR : Blk} (hi : ImB ρ b bR) (hl : ltB n b) {m1 m2 : M} (hm : ∀ i, i < n → ∀ p, m1 i = some p → m2 (ρ i) = some p) (hz : ∀ r p, m1.fz r = some p → m2.fz r = some p) {s : Nat × Nat} {o : Option Obj} (h : BR m1 s o b) : BR m2 s o bR := by
  cases hi with
  | cells hc =>
    obtain ⟨a, e, lo, hh, ho, h1, h2⟩ := h
    refine ⟨a, e, lo, hh, ho, fun k v hv => ?_, h2⟩
    obtain ⟨u, hu, rfl⟩ := hc k v hv
    obtain ⟨h3, ⟨x, hx, hvx⟩, h4⟩ := h1 k u hu
    exact ⟨one_ren h3, ⟨x, hx, VR.ren' hz hm u (hl k u hu) hvx⟩, h4⟩
  | map hv =>
    obtain ⟨hs, a, ho, hl', hc⟩ := h
    refine ⟨hs, a, ho, hl', fun k e x hke hx => ?_⟩
    obtain ⟨h1, h2, h3⟩ := hc k e x hke hx
    exact ⟨h1, h2, h3.of_lt0 hz (hv e (List.mem_of_getElem? hke))⟩
theorem CallOk.of_at {P : Program} {f : FuncId} {argsC : List V} {v : V} {bs bs2 : List Blk} {h hh : H} (ρ : Nat → Nat) (hcw : CallW P [] f argsC (hp bs) (LowK v bs2)) (hlen : bs2.length = bs.length)
    (hinj : ∀ i j, i < bs.length → j < bs.length → ρ i = ρ j → i = j)
    (hb : ∀ (k : Nat) (b : Blk), bs[k]? = some b → ∃ bR, h.get (ρ k) = some bR ∧ SubQ ρ b bR ∧ ltB bs.length b ∧ b.wr = true)
    (hb2 : ∀ (k : Nat) (b : Blk), bs2[k]? = some b → ∃ bR, hh.get (ρ k) = some bR ∧ ImB ρ b bR ∧ ltB bs.length b)
    (hne : ∀ i, (∀ k, k < bs.length → ρ k ≠ i) → hh.get i = h.get i) (hn : hh.n = h.n) (hlow : hh.low ≤ h.low) (hlow0 : ∀ i, i < hh.low → hh.get i = h.get i)
    (ha : ltL bs.length argsC = true) (hmb : ∀ (base : Nat) (m : M) (w : World) (xs : List Value), HR base m h w → VRs m (renL ρ argsC) xs → ∀ k, k < bs.length → m (ρ k) ≠ none) (hv : bare v = true) (hw2 : bs2.all Blk.wr = true := by rfl) : CallOk P f (renL ρ argsC) h v hh := by
  intro base m w xs hr hB hvs
  have hdom := hmb base m w xs hr hvs
  have hrC : HR base (mvw bs.length ρ m) (hp bs) w := {
    blk := fun i b r s hi hm => by
      rw [hp_get] at hi
      obtain ⟨bR, h1, h2, h3, h4⟩ := hb i b hi
      exact h2.BR h3 (mvw_ren _ ρ m) (hr.blk _ bR r s h1 (mvw_some hm).2)
    inj := fun i j bi bj r s s' hi hj hw hl hmi hmj => by
      rw [hp_get] at hi hj
      obtain ⟨bR, h1, h2, h3, h4⟩ := hb i bi hi
      obtain ⟨bR', g1, g2, g3, g4⟩ := hb j bj hj
      exact hinj i j (mvw_some hmi).1 (mvw_some hmj).1 (hr.inj _ _ bR bR' r s s' h1 g1 (h2.wr hw) g2.live.2 (mvw_some hmi).2 (mvw_some hmj).2)
    own := fun i b r s hi hw hm => by
      rw [hp_get] at hi
      obtain ⟨bR, h1, h2, h3, h4⟩ := hb i b hi
      exact hr.own _ bR r s h1 (h2.wr hw) (mvw_some hm).2
    rng := fun i r s hm => hr.rng _ r s (mvw_some hm).2
    lt := fun i b hi => by rw [hp_get] at hi; exact (List.getElem?_eq_some_iff.1 hi).1
    dom := fun i hi => if_neg (Nat.not_lt.2 hi)
    frz := hr.frz
    nfz := fun i b r s hi hw hm => by
      rw [hp_get] at hi
      obtain ⟨bR, h1, h2, h3, h4⟩ := hb i b hi
      exact hr.nfz _ bR r s h1 (h2.wr hw) (mvw_some hm).2 }
  obtain ⟨hfn, hcalls⟩ := hcw.out base _ w xs hrC hB (hvs.mvw ha)
  refine ⟨hfn, CallsIn.mono hcalls ?_⟩
  rintro e w' ⟨v', h', mC, x, ⟨rfl, hk⟩, rfl, hsw, hvx⟩
  have hk2 := lowOk_at hk
  have hsame : ∀ i, i < bs.length → mC i = m (ρ i) := fun i hi => by rw [hsw.same i hi (fun hc => by cases hc), mvw_at hi]
  have hfz : ∀ r p, m.fz r = some p → mC.fz r = some p := hsw.fzx
  have hext : Ext m (m.wide mC) := ⟨fun _ _ h => h, hfz⟩
  have split : ∀ i, (∃ k, k < bs.length ∧ ρ k = i) ∨ ∀ k, k < bs.length → ρ k ≠ i := fun i => by
    by_cases hc : ∃ k, k < bs.length ∧ ρ k = i
    · exact .inl hc
    · exact .inr fun k hk he => hc ⟨k, hk, he⟩
  have old : ∀ i bi, hh.get i = some bi → ∃ bo, h.get i = some bo ∧ (bi.wr = true → bo.wr = true) ∧ (bi.live = true → bo.live = true) := fun i bi hi => by
    rcases split i with ⟨k, hk', rfl⟩ | hno
    · obtain ⟨bR, h1, h2, h3, h4⟩ := hb k bs[k] (List.getElem?_eq_getElem hk')
      exact ⟨_, h1, fun _ => h2.wr h4, fun _ => h2.live.2⟩
    · rw [hne i hno] at hi; exact ⟨bi, hi, _root_.id, _root_.id⟩
  refine ⟨m.wide mC, x, rfl, ?_, VR.of_bare (m := m.wide mC) (m' := mC) (fun _ _ h => h) hvx hv⟩
  exact {
    ext := hext
    new := fun i p h1 h2 => by have h1' : m i = some p := h1; rw [h1'] at h2; cases h2
    hr := {
      blk := fun i bi r s hi hm => by
        have hm' : m i = some (r, s) := hm
        rcases split i with ⟨k, hk', rfl⟩ | hno
        · have hi2 : k < bs2.length := by omega
          obtain ⟨bR, h1, h2, h3⟩ := hb2 k bs2[k] (List.getElem?_eq_getElem hi2)
          rw [h1] at hi
          cases hi
          obtain ⟨b', h4, h5⟩ := hk2 k _ (List.getElem?_eq_getElem hi2)
          rw [Nat.zero_add] at h4
          have h6 := hsw.hr.blk k b' r s h4 (by rw [hsame k hk']; exact hm')
          have h7 := h5.BR h3 (mvw_ren bs.length id mC) h6
          refine h2.BR h3 (m1 := mvw bs.length id mC) (m2 := m.wide mC) (fun j hj p hp => ?_) (fun _ _ h => h) h7
          obtain ⟨j1, j2⟩ := mvw_some hp
          have j3 : mC j = some p := j2
          rw [hsame j j1] at j3
          exact j3
        · rw [hne i hno] at hi
          cases hl : bi.live with
          | false => cases bi <;> first | trivial | cases hl
          | true =>
            rw [hsw.frame r (hr.rng i r s hm') (fun j bj s' hj hwj hmj => by
              obtain ⟨j1, j2⟩ := mvw_some hmj
              rw [hp_get] at hj
              obtain ⟨bR, h1, h2, h3, h4⟩ := hb j bj hj
              exact hno j j1 (hr.inj (ρ j) i bR bi r s' s h1 hi (h2.wr hwj) hl j2 hm'))]
            exact (hr.blk i bi r s hi hm').mono hext
      inj := fun i j bi bj r s s' hi hj hw hl hmi hmj => by
        obtain ⟨bi', g1, g2, _⟩ := old i bi hi
        obtain ⟨bj', g3, _, g4⟩ := old j bj hj
        exact hr.inj i j bi' bj' r s s' g1 g3 (g2 hw) (g4 hl) hmi hmj
      own := fun i bi r s hi hw hm => by
        obtain ⟨bi', g1, g2, _⟩ := old i bi hi
        exact hr.own i bi' r s g1 (g2 hw) hm
      rng := fun i r s hm => Nat.lt_of_lt_of_le (hr.rng i r s hm) hsw.size
      lt := fun i bi hi => by
        obtain ⟨bi', g1, _⟩ := old i bi hi
        rw [hn]; exact hr.lt i bi' g1
      dom := fun i hi => hr.dom i (by rw [hn] at hi; exact hi)
      frz := hsw.hr.frz
      nfz := fun i bi r s hi hw hm => by
        have hm' : m i = some (r, s) := hm
        obtain ⟨bi', g1, g2, _⟩ := old i bi hi
        cases hz : mC.fz r with
        | none => exact hz
        | some p =>
          exfalso
          rcases hsw.fzn r p hz with h1 | h1 | ⟨j, bj, sj, hj, hwj, hmj⟩
          · have := hr.nfz i bi' r s g1 (g2 hw) hm'
            have h1' : m.fz r = some p := h1
            rw [h1'] at this; cases this
          · have := hr.rng i r s hm'; omega
          · obtain ⟨j1, j2⟩ := mvw_some hmj
            have hj2 : j < bs2.length := by omega
            obtain ⟨b', h4, h5⟩ := hk2 j _ (List.getElem?_eq_getElem hj2)
            rw [Nat.zero_add] at h4
            have h6 := h5.wr (List.all_eq_true.1 hw2 _ (List.getElem_mem hj2))
            have h7 := hsw.hr.nfz j b' r sj h4 h6 (by rw [hsame j j1]; exact j2)
            rw [hz] at h7; cases h7 }
    n := by rw [hn]; exact Nat.le_refl _
    os := hsw.os
    tape := hsw.tape
    output := hsw.output
    size := hsw.size
    frame := fun r hlt hno => hsw.frame r hlt (fun i bi s hi hw hm => by
      rw [hp_get] at hi
      obtain ⟨bR, h1, h2, h3, h4⟩ := hb i bi hi
      exact hno (ρ i) bR s h1 (h2.wr hw) (mvw_some hm).2)
    fresh := fun i bi r s hi hw hm => by
      obtain ⟨bi', g1, g2, _⟩ := old i bi hi
      exact .inr ⟨i, bi', s, g1, g2 hw, hm⟩
    low := fun i hi hl => hlow0 i hl
    lowle := hlow
    keep := fun i hi hm => by
      rcases split i with ⟨k, hk', rfl⟩ | hno
      · exact absurd hm (hdom k hk')
      · exact hne i hno
    fzn := fun r p hp => by
      rcases hsw.fzn r p hp with h1 | h1 | ⟨j, bj, sj, hj, hwj, hmj⟩
      · exact .inl h1
      · exact .inr (.inl h1)
      · rw [hp_get] at hj
        obtain ⟨bR, h1, h2, h3, h4⟩ := hb j bj hj
        exact .inr (.inr ⟨ρ j, bR, sj, h1, h2.wr hwj, (mvw_some hmj).2⟩) }
end Go.As
