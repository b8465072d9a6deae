/- What the functions answer that the laws call, one after another (TN). -/
import Derived.Test.YtgcnflpgolnjeaaAs6
import Derived.Test.YtgcnflpgolnjeaaTh
set_option linter.unusedVariables false
set_option linter.unusedSimpArgs false
/- A call that is known for lists that nobody writes, and hands back a new list, is known for lists of the caller's own. -/
namespace Go.As
section
variable {P : Program}
theorem HR.blank {m : M} {w : World} (n : Nat) (hp : ∀ i, m i = none) (hz : ∀ r p, m.fz r = some p → FzO p (w.heap[r]?)) : HR w.heap.size m ⟨.leaf, n, 0⟩ w where
  blk := fun i b r s _ hm => by rw [hp i] at hm; cases hm
  inj := fun i j bi bj r s s' _ _ _ _ hm => by rw [hp i] at hm; cases hm
  own := fun i b r s _ _ hm => by rw [hp i] at hm; cases hm
  rng := fun i r s hm => by rw [hp i] at hm; cases hm
  frz := hz
  nfz := fun i b r s _ _ hm => by rw [hp i] at hm; cases hm
  lt := fun i b hi => by
    have : (Tr.leaf : Tr Blk).get i = some b := hi
    rw [Tr.get_leaf] at this; cases this
  dom := fun i _ => hp i
theorem CallOk.thawN {f : FuncId} {argsZ args : List V} {v : V} {L : List V} (h : H) (hc : CallOk P f argsZ ⟨.leaf, h.n, 0⟩ v (H.new ⟨.leaf, h.n, 0⟩ (.cells (ofL L 0) true none))) (hL : ∀ u ∈ L, strict u = true) (hv : ∀ (m1 m2 : M) (x : Value), m1 h.n = m2 h.n → VR m1 v x → VR m2 v x) (ht : ThL h (fun _ => True) argsZ args) : CallOk P f args h v (h.new (.cells (ofL L 0) true none)) := by
  intro base m w xs hr hB hvs
  have hz : ∀ r p, fzOf m 0 h.n w r = some p → FzO p (w.heap[r]?) := fun r p hp => by
    rcases fzOf_inv hp with h1 | ⟨_, h1⟩
    · exact hr.frz r p h1
    · exact h1
  have hvZ : VRs ⟨fun _ => none, fzOf m 0 h.n w⟩ argsZ xs := by
    obtain ⟨e, ha⟩ := ht.all
    refine ⟨by rw [e]; exact hvs.1, fun i u x hu hx => ?_⟩
    have hi : i < args.length := by rw [← e]; exact (List.getElem?_eq_some_iff.1 hu).1
    exact (ha i u args[i] hu (List.getElem?_eq_getElem hi)).vr hr (fun r p hp => fzOf_ext r p hp) (fun b r s a e lo hi _ hb hz hm hw => fzOf_new hz (Nat.zero_le b) hb hm hw) (hvs.2 i _ x (List.getElem?_eq_getElem hi) hx)
  obtain ⟨hfn, hcalls⟩ := hc w.heap.size ⟨fun _ => none, fzOf m 0 h.n w⟩ w xs (HR.blank h.n (fun _ => rfl) hz) (Nat.le_refl _) hvZ
  refine ⟨hfn, CallsIn.mono hcalls ?_⟩
  rintro e w' ⟨m', x, rfl, hs, hx⟩
  have hno : ∀ (j : Nat) (b : Blk), (H.mk .leaf h.n 0).get j = some b → False := fun j b hj => by
    have : (Tr.leaf : Tr Blk).get j = some b := hj
    rw [Tr.get_leaf] at this; cases this
  have hfr : ∀ r, r < w.heap.size → w'.heap[r]? = w.heap[r]? := fun r hrl => hs.frame r hrl (fun i b s hi _ hm => by cases hm)
  have hfz : ∀ r (p : Option FA), FzO p (w.heap[r]?) → FzO p (w'.heap[r]?) := fun r p hp => by rw [hfr r hp.lt]; exact hp
  have hgn : (H.new ⟨.leaf, h.n, 0⟩ (.cells (ofL L 0) true none)).get h.n = some (.cells (ofL L 0) true none) := by rw [H.get_new]; exact if_pos rfl
  have hnew : ∀ r s, m' h.n = some (r, s) → w.heap.size ≤ r := fun r s hm => by
    rcases hs.fresh h.n _ r s hgn rfl hm with h1 | ⟨j, bj, _, hj, _, _⟩
    · exact h1
    · exact absurd hj (fun hj => hno j bj hj)
  have hmn : m h.n = none := hr.dom h.n (Nat.le_refl _)
  have hget : ∀ i, (h.new (.cells (ofL L 0) true none)).get i = if i = h.n then some (.cells (ofL L 0) true none) else h.get i := fun i => H.get_new ..
  have hm2 : ∀ i, i ≠ h.n → (⟨fun i => if i = h.n then m' h.n else m i, m.fz⟩ : M) i = m i := fun i hi => if_neg hi
  have hm2n : (⟨fun i => if i = h.n then m' h.n else m i, m.fz⟩ : M) h.n = m' h.n := if_pos rfl
  have hext : Ext m ⟨fun i => if i = h.n then m' h.n else m i, m.fz⟩ := ⟨fun i p hp => by
    by_cases hi : i = h.n
    · rw [hi, hmn] at hp; cases hp
    · rw [hm2 i hi]; exact hp, fun _ _ hp => hp⟩
  generalize hM : (⟨fun i => if i = h.n then m' h.n else m i, m.fz⟩ : M) = m2 at *
  have hmf : m2.fz = m.fz := by rw [← hM]
  refine ⟨m2, x, rfl, {
    ext := hext
    new := fun i p h1 h2 => by
      by_cases hi : i = h.n
      · rw [H.n_new]; omega
      · rw [hm2 i hi, h2] at h1; cases h1
    hr := {
      blk := fun i b r s hi hm => by
        rw [hget] at hi
        by_cases he : i = h.n
        · rw [if_pos he] at hi
          rw [he, hm2n] at hm
          cases hi
          obtain ⟨a, e, lo, hh, ho, h1, h2⟩ := hs.hr.blk h.n _ r s hgn hm
          refine ⟨a, e, lo, hh, ho, fun k u hu => ?_, h2⟩
          obtain ⟨h3, ⟨y, hy, hvy⟩, h4⟩ := h1 k u hu
          rw [get_ofL, if_pos (Nat.zero_le _), Nat.sub_zero] at hu
          exact ⟨h3, ⟨y, hy, hvy.of_strict (hL u (List.mem_of_getElem? hu))⟩, h4⟩
        · rw [if_neg he] at hi
          rw [hm2 i he] at hm
          rw [hfr r (hr.rng i r s hm)]
          exact (hr.blk i b r s hi hm).mono hext
      inj := fun i j bi bj r s s' hi hj hw hl hmi hmj => by
        rw [hget] at hi hj
        by_cases he : i = h.n
        · by_cases hf : j = h.n
          · rw [he, hf]
          · rw [he, hm2n] at hmi
            rw [hm2 j hf] at hmj
            have := hnew r s hmi
            have := hr.rng j r s' hmj
            omega
        · by_cases hf : j = h.n
          · rw [hf, hm2n] at hmj
            rw [hm2 i he] at hmi
            have := hnew r s' hmj
            have := hr.rng i r s hmi
            omega
          · rw [if_neg he] at hi
            rw [if_neg hf] at hj
            rw [hm2 i he] at hmi
            rw [hm2 j hf] at hmj
            exact hr.inj i j bi bj r s s' hi hj hw hl hmi hmj
      own := fun i b r s hi hw hm => by
        rw [hget] at hi
        by_cases he : i = h.n
        · rw [he, hm2n] at hm
          exact Nat.le_trans hB (hnew r s hm)
        · rw [if_neg he] at hi
          rw [hm2 i he] at hm
          exact hr.own i b r s hi hw hm
      rng := fun i r s hm => by
        by_cases he : i = h.n
        · rw [he, hm2n] at hm
          exact hs.hr.rng h.n r s hm
        · rw [hm2 i he] at hm
          exact Nat.lt_of_lt_of_le (hr.rng i r s hm) hs.size
      lt := fun i b hi => by
        rw [hget] at hi
        rw [H.n_new]
        by_cases he : i = h.n
        · omega
        · rw [if_neg he] at hi
          have := hr.lt i b hi; omega
      dom := fun i hi => by
        rw [H.n_new] at hi
        rw [hm2 i (by omega)]
        exact hr.dom i (by omega)
      frz := fun r p hp => by rw [hmf] at hp; exact hfz r p (hr.frz r p hp)
      nfz := fun i b r s hi hw hm => by
        rw [hmf]
        rw [hget] at hi
        by_cases he : i = h.n
        · rw [he, hm2n] at hm
          cases hq : m.fz r with
          | none => rfl
          | some p =>
            have h1 := (hr.frz r p hq).lt
            have h2 := hnew r s hm
            omega
        · rw [if_neg he] at hi
          rw [hm2 i he] at hm
          exact hr.nfz i b r s hi hw hm }
    n := by rw [H.n_new]; omega
    os := hs.os
    tape := hs.tape
    output := hs.output
    size := hs.size
    frame := fun r hrl _ => hfr r hrl
    fresh := fun i b r s hb hw hm => by
      rw [hget] at hb
      by_cases he : i = h.n
      · rw [he, hm2n] at hm
        exact .inl (hnew r s hm)
      · rw [if_neg he] at hb
        rw [hm2 i he] at hm
        exact .inr ⟨i, b, s, hb, hw, hm⟩
    low := fun i hi _ => by rw [hget, if_neg (by omega)]
    lowle := by rw [H.low_new]; exact Nat.le_refl _
    keep := fun i hi _ => by rw [hget, if_neg (by omega)]
    fzn := fun r p hp => by rw [hmf] at hp; exact .inl hp }, hv m' m2 x hm2n.symm hx⟩
end
end Go.As
