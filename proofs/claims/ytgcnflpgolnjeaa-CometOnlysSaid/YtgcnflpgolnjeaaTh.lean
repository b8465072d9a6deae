/- What the functions answer that the laws call, one after another (Th). -/
import Derived.Test.YtgcnflpgolnjeaaAs6
set_option linter.unusedVariables false
set_option linter.unusedSimpArgs false
/- A call that is known for lists that nobody writes is known for lists of the caller's own, if it hands back nothing that lies in memory. -/
namespace Go.As
section
variable {P : Program}
inductive Th (h : H) (q : Nat → Prop) : V → V → Prop
  | same {v : V} (h0 : ltV 0 v = true) : Th h q v v
  | nil {ex : Bool} {sz : Nat} {g : Nat → List V} : Th h q (.rsl ex sz 0 g) .nils
  | sl {b o len cap sz : Nat} {ex ex' : Bool} {g : Nat → List V} {c : Tr V} {gg : Option (Nat × Nat)} (hq : q b) (hb : h.get b = some (.cells c true gg)) (he : ex' = true → ex = true ∧ cap = len) (hcap : len ≤ cap)
      (hl : ∀ j, j < len → (g j).length = sz) (hg : ∀ j, j < len → ∀ (k : Nat) (v : V), (g j)[k]? = some v → c.get (o + j * sz + k) = some v ∧ bare0 v = true) : Th h q (.rsl ex' sz len g) (.sl b o len cap ex)
  | agg {l l' : List V} (hl : l.length = l'.length) (ha : ∀ (i : Nat) (v v' : V), l[i]? = some v → l'[i]? = some v' → Th h q v v') : Th h q (.agg l) (.agg l')
inductive ThL (h : H) (q : Nat → Prop) : List V → List V → Prop
  | nil : ThL h q [] []
  | cons {v v' : V} {l l' : List V} (hv : Th h q v v') (hs : ThL h q l l') : ThL h q (v :: l) (v' :: l')
theorem ThL.all {h : H} {q : Nat → Prop} {l l' : List V} (t : ThL h q l l') : l.length = l'.length ∧ ∀ (i : Nat) (v v' : V), l[i]? = some v → l'[i]? = some v' → Th h q v v' := by
  induction t with
  | nil => exact ⟨rfl, fun i v v' h => by simp at h⟩
  | cons t _ ih =>
    refine ⟨by simp [ih.1], fun i v v' hv hv' => ?_⟩
    cases i with
    | zero => simp at hv hv'; subst hv; subst hv'; exact t
    | succ i => exact ih.2 i v v' (by simpa using hv) (by simpa using hv')
theorem ThL.agg {h : H} {q : Nat → Prop} {l l' : List V} (t : ThL h q l l') : Th h q (.agg l) (.agg l') := .agg t.all.1 t.all.2
theorem Th.vr {base : Nat} {m : M} {h : H} {w : World} (hr : HR base m h w) {q : Nat → Prop} {z : FZ} (hmo : ∀ r p, m.fz r = some p → z r = some p)
    (hnw : ∀ (b r : Nat) (s : Nat × Nat) (a : Array Value) (e : TypeId) (lo hi : Nat), q b → b < h.n → m.fz r = none → m b = some (r, s) → w.heap[r]? = some (.cells a e (lo, hi)) → z r = some (some (a, lo, hi))) {u v : V} (t : Th h q u v) : ∀ {x : Value}, VR m v x → VR ⟨fun _ => none, z⟩ u x := by
  induction t with
  | @same v h0 =>
    intro x hx
    have := VR.ren' (m := ⟨fun _ => none, z⟩) (m1 := m) (ρ := fun i => i) (n := 0) hmo (fun i hi => absurd hi (Nat.not_lt_zero i)) v h0 hx
    rwa [renV_id (n := 0) (fun _ _ => rfl) v h0] at this
  | nil => intro x hx; cases hx; exact .rsl .rsl0
  | @sl b o len cap sz ex ex' g c gg hq hb he hcap hl hg =>
    intro x hx
    have hlt := hr.lt _ _ hb
    cases hx with
    | sl hm hc =>
      rename_i r cap' s
      obtain ⟨a, e, lo, hh, ho, hcs, _⟩ := hr.blk _ _ r s hb hm
      have hz : z r = some (some (a, lo, hh)) := hnw b r s a e lo hh hq hlt (hr.nfz _ _ r s hb rfl hm) hm ho
      refine .rsl (.rsl hz (by rw [hc]; split <;> omega) (fun h1 => ?_) hl (fun j hj k v hk => ?_) (fun j hj k v y hk hy => ?_))
      · obtain ⟨e1, e2⟩ := he h1; rw [hc, if_pos e1, e2]
      · obtain ⟨g1, g2⟩ := hg j hj k v hk
        obtain ⟨k1, ⟨y, hy, _⟩, k3⟩ := hcs _ v g1
        exact ⟨k1, ⟨y, by rw [← hy]; congr 1; omega⟩, by rwa [show s.1 + o + j * sz + k = s.1 + (o + j * sz + k) from by omega]⟩
      · obtain ⟨g1, g2⟩ := hg j hj k v hk
        obtain ⟨k1, ⟨y', hy', hv'⟩, k3⟩ := hcs _ v g1
        have e1 : s.1 + o + j * sz + k = s.1 + (o + j * sz + k) := by omega
        rw [e1] at hy
        have hy2 : a[s.1 + (o + j * sz + k)]? = some y := hy
        rw [hy'] at hy2; cases hy2
        exact (hv'.fr_bare g2).mono hmo
    | sl0 hm =>
      rename_i r ad s
      obtain ⟨a, e, lo, hh, ho, hcs, _⟩ := hr.blk _ _ r s hb hm
      have hz : z r = some (some (a, lo, hh)) := hnw b r s a e lo hh hq hlt (hr.nfz _ _ r s hb rfl hm) hm ho
      exact .rsl (.rsl hz (Nat.le_refl _) (fun _ => rfl) (fun j hj => by omega) (fun j hj => by omega) (fun j hj => by omega))
  | @agg l l' hl _ ih =>
    intro x hx
    cases hx with
    | agg h1 h2 =>
      refine .agg (by rw [hl]; exact h1) (fun k v x hv hx => ?_)
      have hk : k < l'.length := by rw [← hl]; exact (List.getElem?_eq_some_iff.1 hv).1
      exact ih k v l'[k] hv (List.getElem?_eq_getElem hk) (h2 k _ x (List.getElem?_eq_getElem hk) hx)
theorem CallOk.thaw {f : FuncId} {argsZ args : List V} {v : V} (hc : CallOk P f argsZ H.empty v H.empty) (hv : strict v = true) (h : H) (ht : ThL h (fun _ => True) argsZ args) : CallOk P f args h v h := by
  intro base m w xs hr hB hvs
  have hz : ∀ r p, fzOf m 0 h.n w r = some p → FzO p (w.heap[r]?) := fun r p hp => by
    rcases fzOf_inv hp with h1 | ⟨_, h1⟩
    · exact hr.frz r p h1
    · exact h1
  have hvZ : VRs ⟨fun _ => none, fzOf m 0 h.n w⟩ argsZ xs := by
    obtain ⟨e, ha⟩ := ht.all
    refine ⟨by rw [e]; exact hvs.1, fun i u x hu hx => ?_⟩
    have hi : i < args.length := by rw [← e]; exact (List.getElem?_eq_some_iff.1 hu).1
    exact (ha i u args[i] hu (List.getElem?_eq_getElem hi)).vr hr (fun r p hp => fzOf_ext r p hp) (fun b r s a e lo hi _ hb hz hm hw => fzOf_new hz (Nat.zero_le b) hb hm hw) (hvs.2 i _ x (List.getElem?_eq_getElem hi) hx)
  obtain ⟨hfn, hcalls⟩ := hc w.heap.size ⟨fun _ => none, fzOf m 0 h.n w⟩ w xs (HR.emptyF (fun _ => rfl) hz) (Nat.le_refl _) hvZ
  refine ⟨hfn, CallsIn.mono hcalls ?_⟩
  rintro e w' ⟨m', x, rfl, hs, hx⟩
  have hfr : ∀ r, r < w.heap.size → w'.heap[r]? = w.heap[r]? := fun r hrl => hs.frame r hrl (fun i b s hi _ hm => by cases hm)
  have hfz : ∀ r (p : Option FA), FzO p (w.heap[r]?) → FzO p (w'.heap[r]?) := fun r p hp => by rw [hfr r hp.lt]; exact hp
  exact ⟨m, x, rfl, {
    ext := .refl m
    new := fun i p h1 h2 => by rw [h1] at h2; cases h2
    hr := {
      blk := fun i b r s hi hm => by rw [hfr r (hr.rng i r s hm)]; exact hr.blk i b r s hi hm
      inj := hr.inj
      own := hr.own
      rng := fun i r s hm => Nat.lt_of_lt_of_le (hr.rng i r s hm) hs.size
      lt := hr.lt
      dom := hr.dom
      frz := fun r p hp => hfz r p (hr.frz r p hp)
      nfz := hr.nfz }
    n := Nat.le_refl _
    os := hs.os
    tape := hs.tape
    output := hs.output
    size := hs.size
    frame := fun r hrl _ => hfr r hrl
    fresh := fun i b r s hb hw hm => .inr ⟨i, b, s, hb, hw, hm⟩
    low := fun _ _ _ => rfl
    lowle := Nat.le_refl _
    keep := fun _ _ _ => rfl
    fzn := fun r p hp => .inl hp }, hx.of_strict hv⟩
theorem CallOk.thawF {f : FuncId} {argsZ args : List V} {v : V} (hc : CallOk P f argsZ H.empty v H.empty) (hv : ltV 0 v = true) (h : H) (b0 : Nat) {c0 : Tr V} {g0 : Option (Nat × Nat)} (hb0 : h.get b0 = some (.cells c0 true g0)) (ht : ThL h (fun b => b = b0) argsZ args)
    (hocc : ∀ (m : M) (xs : List Value), VRs m args xs → m b0 ≠ none) : CallOk P f args h v (h.put b0 .dead) := by
  intro base m w xs hr hB hvs
  have hz : ∀ r p, fzOf m b0 (b0 + 1) w r = some p → FzO p (w.heap[r]?) := fun r p hp => by
    rcases fzOf_inv hp with h1 | ⟨_, h1⟩
    · exact hr.frz r p h1
    · exact h1
  have hvZ : VRs ⟨fun _ => none, fzOf m b0 (b0 + 1) w⟩ argsZ xs := by
    obtain ⟨e, ha⟩ := ht.all
    refine ⟨by rw [e]; exact hvs.1, fun i u x hu hx => ?_⟩
    have hi : i < args.length := by rw [← e]; exact (List.getElem?_eq_some_iff.1 hu).1
    exact (ha i u args[i] hu (List.getElem?_eq_getElem hi)).vr hr (fun r p hp => fzOf_ext r p hp) (fun b r s a e lo hi hq hb hz hm hw => fzOf_new hz (by omega) (by omega) hm hw) (hvs.2 i _ x (List.getElem?_eq_getElem hi) hx)
  obtain ⟨⟨r0, s0⟩, hm0⟩ : ∃ p, m b0 = some p := by
    cases hq : m b0 with
    | none => exact absurd hq (hocc m xs hvs)
    | some p => exact ⟨p, rfl⟩
  obtain ⟨hfn, hcalls⟩ := hc w.heap.size ⟨fun _ => none, fzOf m b0 (b0 + 1) w⟩ w xs (HR.emptyF (fun _ => rfl) hz) (Nat.le_refl _) hvZ
  refine ⟨hfn, CallsIn.mono hcalls ?_⟩
  rintro e w' ⟨m', x, rfl, hs, hx⟩
  have hfr : ∀ r, r < w.heap.size → w'.heap[r]? = w.heap[r]? := fun r hrl => hs.frame r hrl (fun i b s hi _ hm => by cases hm)
  have hmo : ∀ r p, m.fz r = some p → m'.fz r = some p := fun r p hp => hs.ext.fz r p (fzOf_ext r p hp)
  have hext : Ext m ⟨m.pl, m'.fz⟩ := ⟨fun _ _ h => h, hmo⟩
  have hcase : ∀ r p, m'.fz r = some p → m.fz r = some p ∨ w.heap.size ≤ r ∨ r = r0 := fun r p hp => by
    rcases hs.fzn r p hp with h1 | h1 | ⟨j, bj, s', hj, _, _⟩
    · rcases fzOf_inv h1 with h2 | ⟨⟨i, s, i0, i1, hi⟩, _⟩
      · exact .inl h2
      · have : i = b0 := by omega
        subst this
        rw [hm0] at hi; cases hi
        exact .inr (.inr rfl)
    · exact .inr (.inl h1)
    · have : (Tr.leaf : Tr Blk).get j = some bj := hj
      rw [Tr.get_leaf] at this; cases this
  have hold : ∀ i b, (h.put b0 .dead).get i = some b → b.live = true → i ≠ b0 ∧ h.get i = some b := fun i b hi hl => by
    rw [H.get_put] at hi
    by_cases he : i = b0
    · rw [if_pos he] at hi; cases hi; cases hl
    · rw [if_neg he] at hi; exact ⟨he, hi⟩
  refine ⟨⟨m.pl, m'.fz⟩, x, rfl, {
    ext := hext
    new := fun i p h1 h2 => by have h1' : m i = some p := h1; rw [h1'] at h2; cases h2
    hr := {
      blk := fun i b r s hi hm => by
        cases hl : b.live with
        | false => cases b <;> first | trivial | cases hl
        | true =>
          obtain ⟨_, hi2⟩ := hold i b hi hl
          rw [hfr r (hr.rng i r s hm)]
          exact (hr.blk i b r s hi2 hm).mono hext
      inj := fun i j bi bj r s s' hi hj hw hl hmi hmj => hr.inj i j bi bj r s s' (hold i bi hi (Blk.live_of_wr hw)).2 (hold j bj hj hl).2 hw hl hmi hmj
      own := fun i b r s hi hw hm => hr.own i b r s (hold i b hi (Blk.live_of_wr hw)).2 hw hm
      rng := fun i r s hm => Nat.lt_of_lt_of_le (hr.rng i r s hm) hs.size
      lt := fun i b hi => by
        rw [H.get_put] at hi
        rw [H.n_put]
        by_cases he : i = b0
        · rw [he]; exact hr.lt _ _ hb0
        · rw [if_neg he] at hi; exact hr.lt i b hi
      dom := fun i hi => hr.dom i hi
      frz := fun r p hp => hs.hr.frz r p hp
      nfz := fun i b r s hi hw hm => by
        obtain ⟨hne, hi2⟩ := hold i b hi (Blk.live_of_wr hw)
        have hm' : m i = some (r, s) := hm
        cases hq : m'.fz r with
        | none => rfl
        | some p =>
          exfalso
          rcases hcase r p hq with h1 | h1 | h1
          · have := hr.nfz i b r s hi2 hw hm'
            rw [h1] at this; cases this
          · have := hr.rng i r s hm'; omega
          · subst h1
            exact hne (hr.inj i b0 b _ r s s0 hi2 hb0 hw rfl hm' hm0) }
    n := Nat.le_of_eq (H.n_put h b0 .dead).symm
    os := hs.os
    tape := hs.tape
    output := hs.output
    size := hs.size
    frame := fun r hrl _ => hfr r hrl
    fresh := fun i b r s hi hw hm => .inr ⟨i, b, s, (hold i b hi (Blk.live_of_wr hw)).2, hw, hm⟩
    low := fun i hi hl => by
      have := (H.low_put h b0 .dead).2
      rw [H.get_put, if_neg (by omega)]
    lowle := (H.low_put h b0 .dead).1
    keep := fun i hi hm => by
      have hne : i ≠ b0 := fun e => by rw [e, hm0] at hm; cases hm
      rw [H.get_put, if_neg hne]
    fzn := fun r p hp => by
      rcases hcase r p hp with h1 | h1 | h1
      · exact .inl h1
      · exact .inr (.inl h1)
      · exact .inr (.inr ⟨b0, _, s0, hb0, rfl, by rw [h1]; exact hm0⟩) }, ?_⟩
  have := VR.ren' (m := ⟨m.pl, m'.fz⟩) (m1 := m') (ρ := fun i => i) (n := 0) (fun r p hp => hp) (fun i hi => absurd hi (Nat.not_lt_zero i)) v hv hx
  rwa [renV_id (n := 0) (fun _ _ => rfl) v hv] at this
end
end Go.As
