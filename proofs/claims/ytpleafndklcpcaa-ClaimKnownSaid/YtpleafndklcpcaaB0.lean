/- What the functions answer that the laws call, one after another (B0). -/
import Derived.Test.YtpleafndklcpcaaAs6
import Derived.Test.YtpleafndklcpcaaProg
import Derived.KernelRfl

set_option linter.unusedVariables false
namespace Go.Proofs.Q
open Go.As
set_option maxRecDepth 20000
set_option linter.unusedVariables false
set_option linter.unusedSimpArgs false

/-! ### Pairs as keys, maps of places -/

abbrev P2 := Int × Int
def l2 (c : P2) : List Int := [c.1, c.2]
def key2 (c : P2) : Value := intsV (l2 c)
theorem l2_inj {a b : P2} : l2 a = l2 b ↔ a = b := by
  obtain ⟨a1, a2⟩ := a
  obtain ⟨b1, b2⟩ := b
  simp [l2]
theorem chk2 : (fun (em : Bool) (a b : Int) => pureP Try.prog (Instr.checkKey em 10000 72 (.agg #[.int .i64 a, .int .i64 b]))) = fun _ _ _ => some () := by kernel_rfl
theorem eqOk2 : (match flatE Try.prog 6 72 with | some j => Nat.beq j 2 | none => false) = true ∧ isAgg? Try.prog 72 = some true := ⟨by kernel_rfl, by kernel_rfl⟩
theorem intsV_intVs (l : List Int) : intsV l = .agg (intVs l).toArray := by
  unfold intsV intVs
  rfl
theorem keys2 : KeysOk Try.prog 72 key2 where
  chk := fun em k => congrFun (congrFun (congrFun chk2 em) k.1) k.2
  eq := .inr ⟨_, Try.underlying72, fun a b => rfl, fun a b => by
    have hf : flatE Try.prog 6 72 = some 2 := by
      have h1 := eqOk2.1
      split at h1
      · rename_i j hj; rw [hj, Nat.eq_of_beq_eq_true h1]
      · cases h1
    unfold Op.equal Op.maxDepth key2
    rw [intsV_intVs, intsV_intVs, flat_equal 6 _ 2 hf 10000 (by omega) (l2 a) (l2 b) rfl rfl _ _ (.agg eqOk2.2) (.agg eqOk2.2)]
    congr 1
    rw [Bool.eq_iff_iff, decide_eq_true_eq, decide_eq_true_eq, l2_inj]⟩
/-- An entry: the pair, its place, when it came. -/
abbrev E2 := P2 × Int × Nat
def enE (e : E2) : Value × V × Nat := (key2 e.1, .int .i64 e.2.1, e.2.2)
def enL (L : List E2) : List (Value × V × Nat) := L.map enE
theorem enL_keys (L : List E2) : (enL L).map (·.1) = (L.map (·.1)).map key2 := by unfold enL; rw [List.map_map, List.map_map]; rfl
theorem enL_find (em : Bool) (c : P2) (L : List E2) : findAt Try.prog em 72 (key2 c) (enL L) = some ((L.map (·.1)).findIdx? fun a => decide (c = a)) := findAt_ok keys2 em c _ (enL_keys L)
theorem enL_lt {m : Nat} {L : List E2} {k : Nat} : ltB m (.map (enL L) k) := fun e he => by obtain ⟨q, _, rfl⟩ := List.mem_map.1 he; rfl
theorem enL_sub {ρ : Nat → Nat} (L : List E2) (k : Nat) : SubQ ρ (.map (enL L) k) (.map (enL L) k) := .map (by
  have h : ∀ l : List E2, (enL l).map (fun e => (e.1, renV ρ e.2.1, e.2.2)) = enL l := fun l => by
    unfold enL; rw [List.map_map]; rfl
  exact (h L).symm)
theorem left_mem {L : List E2} {seen : List Nat} {e : Value × V × Nat} (h : e ∈ leftL (enL L) seen) : ∃ q ∈ L, e = enE q ∧ q.2.2 ∉ seen := by
  unfold leftL enL at h
  obtain ⟨h1, h2⟩ := List.mem_filter.1 h
  obtain ⟨q, hq, rfl⟩ := List.mem_map.1 h1
  exact ⟨q, hq, rfl, by simpa [enE] using h2⟩
theorem left_some {L : List E2} {seen : List Nat} {q : E2} (hq : q ∈ L) (hs : q.2.2 ∉ seen) : leftL (enL L) seen ≠ [] := by
  intro h
  have h2 : enE q ∈ leftL (enL L) seen := List.mem_filter.2 ⟨List.mem_map.2 ⟨q, hq, rfl⟩, by simpa [enE] using hs⟩
  rw [h] at h2
  cases h2
theorem left_nil {L : List E2} {seen : List Nat} (h : leftL (enL L) seen = []) : ∀ q ∈ L, q.2.2 ∈ seen := by
  intro q hq
  by_cases hs : q.2.2 ∈ seen
  · exact hs
  · exact absurd h (left_some hq hs)
theorem find_stamp : ∀ {L : List E2} {q : E2}, q ∈ L → (∀ a ∈ L, a.2.2 = q.2.2 → a = q) → (enL L).find? (fun e => Nat.beq e.2.2 q.2.2) = some (enE q)
  | a :: L, q, hq, hu => by
    show List.find? _ (enE a :: enL L) = _
    rw [List.find?_cons]
    by_cases h : a.2.2 = q.2.2
    · have := hu a (List.mem_cons_self ..) h
      subst this
      have : Nat.beq (enE a).2.2 a.2.2 = true := Nat.beq_refl _
      rw [this]
    · have hb : Nat.beq (enE a).2.2 q.2.2 = false := by rw [Bool.eq_false_iff]; intro hc; exact h (Nat.eq_of_beq_eq_true hc)
      rw [hb]
      rcases List.mem_cons.1 hq with rfl | hq
      · exact absurd rfl h
      · exact find_stamp hq fun b hb => hu b (List.mem_cons_of_mem _ hb)
def msr (L : List E2) (seen : List Nat) : Nat := (L.filter fun q => !seen.contains q.2.2).length
theorem filter_lt {α : Type} {p p' : α → Bool} (hpp : ∀ a, p' a = true → p a = true) : ∀ {l : List α} {x : α}, x ∈ l → p x = true → p' x = false → (l.filter p').length < (l.filter p).length
  | a :: l, x, hx, h1, h2 => by
    have hle : ∀ l : List α, (l.filter p').length ≤ (l.filter p).length := fun l => by
      induction l with
      | nil => exact Nat.le_refl _
      | cons b l ih =>
        by_cases hb : p' b = true
        · rw [List.filter_cons_of_pos hb, List.filter_cons_of_pos (hpp b hb)]; simp; exact ih
        · rw [List.filter_cons_of_neg hb]
          by_cases hc : p b = true
          · rw [List.filter_cons_of_pos hc]; simp; omega
          · rw [List.filter_cons_of_neg hc]; exact ih
    rcases List.mem_cons.1 hx with rfl | hx
    · rw [List.filter_cons_of_pos h1, List.filter_cons_of_neg (by rw [h2]; decide)]
      have := hle l
      simp; omega
    · have ih := filter_lt hpp hx h1 h2
      by_cases hb : p' a = true
      · rw [List.filter_cons_of_pos hb, List.filter_cons_of_pos (hpp a hb)]; simp; exact ih
      · rw [List.filter_cons_of_neg hb]
        by_cases hc : p a = true
        · rw [List.filter_cons_of_pos hc]; simp; omega
        · rw [List.filter_cons_of_neg hc]; exact ih
theorem msr_lt {L : List E2} {seen : List Nat} {q : E2} (hq : q ∈ L) (hs : q.2.2 ∉ seen) : msr L (seen ++ [q.2.2]) < msr L seen :=
  filter_lt (fun a ha => by
    simp only [Bool.not_eq_true', List.contains_eq_mem, List.mem_append, decide_eq_false_iff_not, not_or] at ha ⊢
    exact ha.1) hq (by simpa using hs) (by simp)
theorem last_snoc {α : Type} (l : List α) (x : α) : (l ++ [x]).getLast? = some x := by simp

/-! ### What is left of a map from which some are deleted -/

def ksL (inM : P2 → Bool) (L : List E2) (seen : List Nat) : List E2 := L.filter fun e => !(seen.contains e.2.2 && !inM e.1)
section
variable {inM : P2 → Bool}
theorem ks_nil (L : List E2) : ksL inM L [] = L := by
  unfold ksL
  rw [List.filter_eq_self.2 (by simp)]
theorem ks_mem {L : List E2} {seen : List Nat} {e : E2} (h : e ∈ ksL inM L seen) : e ∈ L := (List.mem_filter.1 h).1
theorem ks_keep {L : List E2} {seen : List Nat} {e : E2} (hin : ∀ x ∈ L, ∀ a ∈ L, a.2.2 = x.2.2 → a = x) (he : e ∈ L) (h : inM e.1 = true) : ksL inM L (seen ++ [e.2.2]) = ksL inM L seen := by
  unfold ksL
  refine List.filter_congr fun x hx => ?_
  by_cases hxe : x = e
  · subst hxe; rw [h]; simp
  · have : x.2.2 ≠ e.2.2 := fun hc => hxe (hin e he x hx hc)
    simp [this]
theorem ks_drop {L : List E2} {seen : List Nat} {e : E2} (hin : ∀ x ∈ L, ∀ a ∈ L, a.2.2 = x.2.2 → a = x) (he : e ∈ L) (h : inM e.1 = false) : (ksL inM L seen).filter (fun x => decide (x ≠ e)) = ksL inM L (seen ++ [e.2.2]) := by
  unfold ksL
  rw [List.filter_filter]
  refine List.filter_congr fun x hx => ?_
  by_cases hxe : x = e
  · subst hxe; simp [h]
  · have : x.2.2 ≠ e.2.2 := fun hc => hxe (hin e he x hx hc)
    simp [hxe, this]
theorem ks_end {L : List E2} {seen : List Nat} (h : ∀ e ∈ ksL inM L seen, e.2.2 ∈ seen) : ksL inM L seen = L.filter fun e => inM e.1 := by
  unfold ksL
  refine List.filter_congr fun x hx => ?_
  cases hm : inM x.1 with
  | true => simp
  | false =>
    by_cases hs : x.2.2 ∈ seen
    · simp [hs]
    · exfalso
      have : x ∈ ksL inM L seen := List.mem_filter.2 ⟨hx, by simp [hs]⟩
      exact hs (h x this)
theorem erase_key : ∀ {L : List E2} {e : E2} {j : Nat}, e ∈ L → (∀ a ∈ L, a.1 = e.1 → a = e) → (L.map (·.1)).findIdx? (fun a => decide (e.1 = a)) = some j → L.Nodup → L.eraseIdx j = L.filter fun x => decide (x ≠ e)
  | a :: L, e, j, he, hu, hf, hn => by
    rw [List.map_cons, List.findIdx?_cons] at hf
    have hnd := List.nodup_cons.1 hn
    by_cases h : e.1 = a.1
    · rw [decide_eq_true h] at hf
      have e1 := hu a List.mem_cons_self h.symm
      subst e1
      have : j = 0 := by simpa using hf.symm
      subst this
      rw [List.eraseIdx_cons_zero, List.filter_cons_of_neg (by simp)]
      refine (List.filter_eq_self.2 fun x hx => ?_).symm
      have hxa : x ≠ a := fun hc => hnd.1 (by rw [← hc]; exact hx)
      simpa using hxa
    · rw [decide_eq_false h] at hf
      have hae : a ≠ e := fun hc => h (by rw [hc])
      have heL : e ∈ L := by
        rcases List.mem_cons.1 he with h1 | h1
        · exact absurd h1.symm hae
        · exact h1
      cases hj : (L.map (·.1)).findIdx? (fun a => decide (e.1 = a)) with
      | none => rw [hj] at hf; simp at hf
      | some i =>
        rw [hj] at hf
        have : j = i + 1 := by simpa using hf.symm
        subst this
        rw [List.eraseIdx_cons_succ, List.filter_cons_of_pos (by simpa using hae), erase_key heL (fun x hx => hu x (List.mem_cons_of_mem _ hx)) hj hnd.2]
theorem enL_erase : ∀ (L : List E2) (j : Nat), (enL L).eraseIdx j = enL (L.eraseIdx j)
  | [], _ => rfl
  | e :: L, 0 => rfl
  | e :: L, j + 1 => by
    show enE e :: (enL L).eraseIdx j = enE e :: enL (L.eraseIdx j)
    rw [enL_erase L j]
end
/-- A map's entries: each pair once, each came at a time of its own. -/
structure Mp (L : List E2) (k : Nat) : Prop where
  lt : ∀ e ∈ L, e.2.2 < k
  st : ∀ x ∈ L, ∀ a ∈ L, a.2.2 = x.2.2 → a = x
  ky : ∀ x ∈ L, ∀ a ∈ L, a.1 = x.1 → a = x
  nd : L.Nodup
def mpB (L : List E2) (k : Nat) : Bool := (L.all fun e => decide (e.2.2 < k)) && decide (L.map (·.2.2)).Nodup && decide (L.map (·.1)).Nodup
end Go.Proofs.Q

namespace Go.Proofs.Q
open Go.As
set_option maxRecDepth 20000
set_option linter.unusedVariables false
set_option linter.unusedSimpArgs false

/-! ### keep: those that the other map lacks are deleted -/

theorem nodup_inj {α β : Type} {f : α → β} : ∀ {l : List α}, (l.map f).Nodup → ∀ x ∈ l, ∀ y ∈ l, f y = f x → y = x
  | [], _, x, hx, _, _, _ => by cases hx
  | a :: l, h, x, hx, y, hy, e => by
    have h2 := List.nodup_cons.1 h
    rcases List.mem_cons.1 hx with hx | hx
    · rcases List.mem_cons.1 hy with hy | hy
      · rw [hx, hy]
      · exact absurd (List.mem_map.2 ⟨y, hy, by rw [e, hx]⟩) h2.1
    · rcases List.mem_cons.1 hy with hy | hy
      · exact absurd (List.mem_map.2 ⟨x, hx, by rw [← e, hy]⟩) h2.1
      · exact nodup_inj h2.2 x hx y hy e
theorem nodup_of {α β : Type} {f : α → β} : ∀ {l : List α}, (l.map f).Nodup → l.Nodup
  | [], _ => List.nodup_nil
  | a :: l, h => by
    have h2 := List.nodup_cons.1 h
    exact List.nodup_cons.2 ⟨fun hm => h2.1 (List.mem_map_of_mem hm), nodup_of h2.2⟩
theorem mp_of {L : List E2} {k : Nat} (h : mpB L k = true) : Mp L k := by
  unfold mpB at h
  rw [Bool.and_eq_true, Bool.and_eq_true, decide_eq_true_eq, decide_eq_true_eq] at h
  exact ⟨fun e he => of_decide_eq_true (List.all_eq_true.1 h.1.1 e he), nodup_inj h.1.2, nodup_inj h.2, nodup_of h.1.2⟩
def inM (M : List E2) (c : P2) : Bool := ((M.map (·.1)).findIdx? fun a => decide (c = a)).isSome
set_option maxHeartbeats 4000000 in
theorem keep_w (L M : List E2) (k k2 : Nat) (hL : Mp L k) : CallW Try.prog [] 76 [.map 0, .map 1] (hp [.map (enL L) k, .map (enL M) k2]) (LowK (.tup []) [.map (enL (L.filter fun e => inM M e.1)) k, .map (enL M) k2]) := by
  have hh : hp [.map (enL L) k, .map (enL M) k2] = As.H.mk (.node (.node .leaf (some (.map (enL M) k2)) .leaf) (some (.map (enL L) k)) .leaf) 2 0 := rfl
  rw [hh]
  refine CallW.inline (f := 76) Try.func76 rfl rfl (Nat.le_of_ble_eq_true rfl) (WpR.of_vc ?_)
  have hMap : ∀ (n : Nat) p, ltB n (.map (enL (ksL (inM M) L p)) k) := fun _ _ => enL_lt
  have hMapA : ∀ n : Nat, ltB n (.map (enL L) k) := fun _ => enL_lt
  have hMapB : ∀ n : Nat, ltB n (.map (enL M) k2) := fun _ => enL_lt
  have hMapC : ∀ (n : Nat) (seen : List Nat), ltB (n + 3) (.iter 0 k seen k) := fun n seen => by show 0 < n + 3; omega
  have hM0 : ∀ ρ : Nat → Nat, SubQ ρ (.map (enL (ksL (inM M) L [])) k) (.map (enL L) k) := fun ρ => by rw [ks_nil]; exact enL_sub _ _
  (conv => whnf); (repeat' (first | ((with_reducible refine ifb_mk (fun hc => ?_) (fun hc => ?_)) <;> ((try simp only [decide_eq_true_eq, decide_eq_false_iff_not, Bool.not_eq_true', Bool.not_eq_false', Int.not_lt, Int.not_le, ne_eq, Decidable.not_not, beq_iff_eq, List.cons.injEq, and_true] at hc); (first | (exfalso; omega) | exact absurd True.intro hc | conv => whnf))) | ((with_reducible refine And.intro True.intro ?_); conv => whnf) | ((with_reducible refine And.intro ?hh ?_); (case hh => exact condA); conv => whnf) | fail))
  refine WpR.loopA (ι := List Nat) [] [0, 1] [0, 2] [] 3 (fun _ => [(8, .ptr 2 0)]) (fun p => [(0, .map (enL (ksL (inM M) L p)) k), (2, .iter 0 k p k)]) (fun p => msr L p) (fun _ => True) ?_ ([]) (trivial) [] ⟨rfl, rfl, (by (repeat' (first | exact True.intro | rfl | exact gr_ren rfl | exact aV_ren rfl | exact aW_ren rfl rfl | refine And.intro ?_ ?_))), (by (repeat' (first | exact True.intro | rfl | exact gr_ren rfl | exact aV_ren rfl | exact aW_ren rfl rfl | refine And.intro ?_ ?_))), (by (repeat' (first | exact True.intro | rfl | exact gr_ren rfl | exact aV_ren rfl | exact aW_ren rfl rfl | refine And.intro ?_ ?_))), ⟨.inr ⟨_, rfl, hM0 _⟩, .inr ⟨_, rfl, .iter⟩, trivial⟩, rfl, rfl⟩
  intro seen _
  refine WpR.of_vc ?_
  have hsz : ∀ e ∈ enL (ksL (inM M) L seen), e.2.2 < k := fun e he => by
    obtain ⟨x, hx, rfl⟩ := List.mem_map.1 he
    exact hL.lt x (ks_mem hx)
  conv => whnf
  refine ⟨hsz, Nat.le_refl _, fun hl => ?_, fun e he => ?_⟩
  · have hend := ks_end (left_nil hl)
    (conv => whnf); (repeat' (first | ((with_reducible refine ifb_mk (fun hc => ?_) (fun hc => ?_)) <;> ((try simp only [decide_eq_true_eq, decide_eq_false_iff_not, Bool.not_eq_true', Bool.not_eq_false', Int.not_lt, Int.not_le, ne_eq, Decidable.not_not, beq_iff_eq, List.cons.injEq, and_true] at hc); (first | (exfalso; omega) | exact absurd True.intro hc | conv => whnf))) | ((with_reducible refine And.intro True.intro ?_); conv => whnf) | ((with_reducible refine And.intro ?hh ?_); (case hh => exact condA); conv => whnf) | fail))
    all_goals first | (exfalso; omega) | exact ⟨rfl, ⟨_, rfl, by rw [hend]; exact enL_sub _ _⟩, ⟨_, rfl, enL_sub _ _⟩, trivial⟩
  · obtain ⟨e, hq, rfl, hns⟩ := left_mem he
    have hqL := ks_mem hq
    have hst := find_stamp hq (fun x hx => hL.st e hqL x (ks_mem hx))
    have hmm := msr_lt (L := L) (seen := seen) (q := e) hqL hns
    have hov : ofVal (key2 e.1) = some (.agg [.int .i64 e.1.1, .int .i64 e.1.2]) := rfl
    have hkey : plain (.agg [.int .i64 e.1.1, .int .i64 e.1.2]) = some (key2 e.1) := rfl
    have hf2 := fun em => enL_find em e.1 M
    cases hj2 : (M.map (·.1)).findIdx? (fun a => decide (e.1 = a)) with
    | none =>
      have hin : inM M e.1 = false := by unfold inM; rw [hj2]; rfl
      rw [hj2] at hf2
      have hfi := fun em => enL_find em e.1 (ksL (inM M) L seen)
      have hfj : ∃ j, ((ksL (inM M) L seen).map (·.1)).findIdx? (fun a => decide (e.1 = a)) = some j := by
        cases hc : ((ksL (inM M) L seen).map (·.1)).findIdx? (fun a => decide (e.1 = a)) with
        | none =>
          have h1 := List.findIdx?_eq_none_iff.1 hc e.1 (List.mem_map_of_mem hq)
          rw [decide_eq_true rfl] at h1; cases h1
        | some j => exact ⟨j, rfl⟩
      obtain ⟨j, hj⟩ := hfj
      have her := erase_key hq (fun x hx hk => hL.ky e hqL x (ks_mem hx) hk) hj (List.Nodup.sublist List.filter_sublist hL.nd)
      rw [ks_drop hL.st hqL hin] at her
      rw [hj] at hfi
      have hMs : ∀ ρ : Nat → Nat, SubQ ρ (.map (enL (ksL (inM M) L (seen ++ [e.2.2]))) k) (.map ((enL (ksL (inM M) L seen)).eraseIdx j) k) := fun ρ => by rw [enL_erase, her]; exact enL_sub _ _
      (conv => whnf); (repeat' (first | ((with_reducible refine ifb_mk (fun hc => ?_) (fun hc => ?_)) <;> ((try simp only [decide_eq_true_eq, decide_eq_false_iff_not, Bool.not_eq_true', Bool.not_eq_false', Int.not_lt, Int.not_le, ne_eq, Decidable.not_not, beq_iff_eq, List.cons.injEq, and_true] at hc); (first | (exfalso; omega) | exact absurd True.intro hc | conv => whnf))) | ((with_reducible refine And.intro True.intro ?_); conv => whnf) | (refine som_mk (last_snoc _ _) ?_; conv => whnf) | ((with_reducible refine grd_and ?_); refine And.intro (rfl) ?_; conv => whnf) | (refine som_mk (hst) ?_; conv => whnf) | (refine som_mk (hov) ?_; conv => whnf) | (refine som_mk (hkey) ?_; conv => whnf) | (refine som_mk (hf2 _) ?_; conv => whnf) | (refine som_mk (hfi _) ?_; conv => whnf) | ((with_reducible refine And.intro ?hh ?_); (case hh => exact condA); conv => whnf) | fail))
      all_goals first | (exfalso; omega) | exact ⟨seen ++ [e.2.2], [], hmm, trivial, ⟨rfl, rfl, (by (repeat' (first | exact True.intro | rfl | exact gr_ren rfl | exact aV_ren rfl | exact aW_ren rfl rfl | refine And.intro ?_ ?_))), (by (repeat' (first | exact True.intro | rfl | exact gr_ren rfl | exact aV_ren rfl | exact aW_ren rfl rfl | refine And.intro ?_ ?_))), (by (repeat' (first | exact True.intro | rfl | exact gr_ren rfl | exact aV_ren rfl | exact aW_ren rfl rfl | refine And.intro ?_ ?_))), ⟨.inr ⟨_, rfl, hMs _⟩, .inr ⟨_, rfl, .iter⟩, trivial⟩, rfl, rfl⟩⟩
    | some j2 =>
      have hin : inM M e.1 = true := by unfold inM; rw [hj2]; rfl
      rw [hj2] at hf2
      have hlt : j2 < M.length := by
        obtain ⟨h1, _⟩ := List.findIdx?_eq_some_iff_getElem.1 hj2
        rwa [List.length_map] at h1
      have hen : (enL M)[j2]? = some (enE M[j2]) := by unfold enL; rw [List.getElem?_map, List.getElem?_eq_getElem hlt]; rfl
      have hMs : ∀ ρ : Nat → Nat, SubQ ρ (.map (enL (ksL (inM M) L (seen ++ [e.2.2]))) k) (.map (enL (ksL (inM M) L seen)) k) := fun ρ => by rw [ks_keep hL.st hqL hin]; exact enL_sub _ _
      (conv => whnf); (repeat' (first | ((with_reducible refine ifb_mk (fun hc => ?_) (fun hc => ?_)) <;> ((try simp only [decide_eq_true_eq, decide_eq_false_iff_not, Bool.not_eq_true', Bool.not_eq_false', Int.not_lt, Int.not_le, ne_eq, Decidable.not_not, beq_iff_eq, List.cons.injEq, and_true] at hc); (first | (exfalso; omega) | exact absurd True.intro hc | conv => whnf))) | ((with_reducible refine And.intro True.intro ?_); conv => whnf) | (refine som_mk (last_snoc _ _) ?_; conv => whnf) | ((with_reducible refine grd_and ?_); refine And.intro (rfl) ?_; conv => whnf) | (refine som_mk (hst) ?_; conv => whnf) | (refine som_mk (hov) ?_; conv => whnf) | (refine som_mk (hkey) ?_; conv => whnf) | (refine som_mk (hf2 _) ?_; conv => whnf) | (refine som_mk (hen) ?_; conv => whnf) | ((with_reducible refine And.intro ?hh ?_); (case hh => exact condA); conv => whnf) | fail))
      all_goals first | (exfalso; omega) | exact ⟨seen ++ [e.2.2], [], hmm, trivial, ⟨rfl, rfl, (by (repeat' (first | exact True.intro | rfl | exact gr_ren rfl | exact aV_ren rfl | exact aW_ren rfl rfl | refine And.intro ?_ ?_))), (by (repeat' (first | exact True.intro | rfl | exact gr_ren rfl | exact aV_ren rfl | exact aW_ren rfl rfl | refine And.intro ?_ ?_))), (by (repeat' (first | exact True.intro | rfl | exact gr_ren rfl | exact aV_ren rfl | exact aW_ren rfl rfl | refine And.intro ?_ ?_))), ⟨.inr ⟨_, rfl, hMs _⟩, .inr ⟨_, rfl, .iter⟩, trivial⟩, rfl, rfl⟩⟩
theorem map_dom {m : M} {s : Nat} {l : List V} {xs : List Value} (h : VRs m (.map s :: l) xs) : m s ≠ none := by
  obtain ⟨x, a', _, hx, _⟩ := h.uncons
  cases hx with
  | map hm => exact fun hc => by rw [hm] at hc; cases hc
theorem map_dom2 {m : M} {s : Nat} {u : V} {l : List V} {xs : List Value} (h : VRs m (u :: .map s :: l) xs) : m s ≠ none := by
  obtain ⟨x, a', _, _, hx⟩ := h.uncons
  exact map_dom hx
theorem keep_ok (h : As.H) (x y : Nat) (hxy : x ≠ y) (L M : List E2) (k k2 : Nat) (hL : mpB L k = true) (hx : h.get x = some (.map (enL L) k)) (hy : h.get y = some (.map (enL M) k2)) :
    CallOk Try.prog 76 [.map x, .map y] h (.tup []) (h.put x (.map (enL (L.filter fun e => inM M e.1)) k)) := by
  have hlow1 := As.H.low_put h x (.map (enL (L.filter fun e => inM M e.1)) k)
  have hr : ∀ i, i < 2 → i = 0 ∨ i = 1 := fun i hi => by omega
  refine CallOk.of_at (argsC := [.map 0, .map 1]) (fun i => if i = 0 then x else y) (keep_w L M k k2 (mp_of hL)) rfl (fun i j hi hj he => ?_) (fun k b hk => ?_) (fun k b hk => ?_) (fun i hi => ?_) rfl (by omega) (fun i hi => ?_) rfl (fun base m w xs hr hvs k hk => ?_) rfl
  · rcases hr i hi with rfl | rfl <;> rcases hr j hj with rfl | rfl
    · rfl
    · exact absurd he hxy
    · exact absurd he.symm hxy
    · rfl
  · match k, hk with
    | 0, hk => cases hk; exact ⟨_, hx, enL_sub _ _, enL_lt, rfl⟩
    | 1, hk => cases hk; exact ⟨_, hy, enL_sub _ _, enL_lt, rfl⟩
    | k + 2, hk => simp at hk
  · match k, hk with
    | 0, hk =>
      cases hk
      exact ⟨_, by show (h.put x _).get x = _; rw [As.H.get_put]; exact if_pos rfl, .map fun e he => by obtain ⟨q, _, rfl⟩ := List.mem_map.1 he; rfl, enL_lt⟩
    | 1, hk =>
      cases hk
      exact ⟨_, by show (h.put x _).get y = _; rw [As.H.get_put, if_neg (fun he => hxy he.symm)]; exact hy, .map fun e he => by obtain ⟨q, _, rfl⟩ := List.mem_map.1 he; rfl, enL_lt⟩
    | k + 2, hk => simp at hk
  · rw [As.H.get_put, if_neg (fun he => hi 0 (by simp) he.symm)]
  · rw [As.H.get_put, if_neg (by omega)]
  · rcases (show k = 0 ∨ k = 1 by simp at hk; omega) with rfl | rfl
    · exact map_dom (l := [.map y]) hvs
    · exact map_dom2 (u := .map x) (l := []) hvs
end Go.Proofs.Q

namespace Go.Proofs.Q
open Go.As
set_option maxRecDepth 20000
set_option linter.unusedVariables false
set_option linter.unusedSimpArgs false

/-! ### Closed runs -/

theorem mixed : Try.prog.follows .mixedOrders = true := by kernel_rfl
theorem cast_ok {P : Program} {f : FuncId} {a a2 : List V} {h h' h2 : As.H} {v v2 : V} (hc : CallOk P f a h v h') (ha : a = a2) (hv : v = v2) (hh : h' = h2) : CallOk P f a2 h v2 h2 := by
  subst ha hv hh; exact hc
noncomputable def iN (n : Nat) : V := .int .i64 (.ofNat n)
noncomputable def iM (n : Nat) : V := .int .i64 (.negSucc n)
noncomputable def en (a b c d : Nat) : Value × V × Nat := (.agg #[.int .i64 (.ofNat a), .int .i64 (.ofNat b)], .int .i64 (.ofNat c), d)
noncomputable def lf (v : V) : Tr V := .node .leaf (.some v) .leaf
end Go.Proofs.Q

