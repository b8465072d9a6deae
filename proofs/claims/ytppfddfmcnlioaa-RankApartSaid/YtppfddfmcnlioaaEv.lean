/- What the functions answer that the laws call, one after another (Ev). -/
import Derived.Test.YtppfddfmcnlioaaAs6
import Derived.Test.YtppfddfmcnlioaaB0

set_option linter.unusedVariables false
namespace Go.Proofs.J
open Go.As
set_option maxRecDepth 20000
set_option linter.unusedVariables false
set_option linter.unusedSimpArgs false

/-! ### Calls on no address, known in every memory -/

section
variable {P : Program}
theorem VRs.strictly {m m' : M} {l : List V} {xs : List Value} (h : VRs m l xs) (hs : l.all strict = true) : VRs m' l xs :=
  ⟨h.1, fun k v x h1 h2 => (h.2 k v x h1 h2).of_strict (List.all_eq_true.1 hs v (List.mem_of_getElem? h1))⟩
theorem everywhereA {f : FuncId} {args : List V} {v : V} {h' : As.H} (hc : CallOk P f args As.H.empty v h') (ha : args.all strict = true) (hb : strict v = true) (h : As.H) : CallOk P f args h v h := by
  intro base m w xs hr hB hvs
  have hx : VRs M.no args xs := VRs.strictly hvs ha
  refine ⟨(hc w.heap.size M.no w xs (HR.empty w) (Nat.le_refl _) hx).1, CallsIn.mono (hc.calls hx w) ?_⟩
  rintro e w' ⟨m', x, rfl, hv, ho, ht, hp, hsz, hfr⟩
  refine ⟨m, x, rfl, ?_, hv.of_strict hb⟩
  exact {
    ext := .refl m
    new := fun i p h1 h2 => by rw [h1] at h2; cases h2
    hr := {
      blk := fun i b r s hi hm => by rw [hfr r (hr.rng i r s hm)]; exact hr.blk i b r s hi hm
      inj := hr.inj
      own := hr.own
      frz := fun r p hp => by
        have he := hr.frz r p hp
        rw [hfr r he.lt]; exact he
      nfz := hr.nfz
      rng := fun i r s hm => Nat.lt_of_lt_of_le (hr.rng i r s hm) hsz
      lt := hr.lt
      dom := hr.dom }
    n := Nat.le_refl _
    os := ho
    tape := ht
    output := hp
    size := hsz
    frame := fun r hr' _ => hfr r hr'
    fresh := fun i b r s hi hw hm => .inr ⟨i, b, s, hi, hw, hm⟩
    low := fun _ _ _ => rfl
    lowle := Nat.le_refl _
    fzn := fun _ _ h => .inl h
    keep := fun _ _ _ => rfl }
theorem everA {k : Memo} (hk : MemoOk P k) {f : FuncId} {args : List V} {v : V} {h' : As.H} (hc : CallOk P f args As.H.empty v h') (ha : args.all strict = true) (hb : strict v = true) : MemoOk P (ever f args v k) := by
  intro f1 a1 h1 v1 h1' he
  simp only [Go.As.ever] at he
  cases hf : Nat.beq f1 f with
  | false => rw [hf] at he; exact hk _ _ _ _ _ he
  | true =>
    rw [hf] at he
    dsimp only at he
    cases hq : eqL eqV a1 args with
    | false => rw [hq] at he; exact hk _ _ _ _ _ he
    | true =>
      rw [hq] at he
      cases he
      rw [Nat.eq_of_beq_eq_true hf, eqL_eq (fun _ _ => eqV_eq) hq]
      exact everywhereA hc ha hb h1
end
end Go.Proofs.J

