/- What the functions answer that the laws call, one after another (Ad0). -/
import Derived.Test.YtgcnflpgolnjeaaAs6
import Derived.Test.YtgcnflpgolnjeaaTwo
import Derived.Test.YtgcnflpgolnjeaaChk
set_option linter.unusedVariables false
set_option linter.unusedSimpArgs false
namespace Go.Proofs.K
open Go.As
set_option maxRecDepth 20000
theorem csP_sm2 {n : Nat} {x y : Nat → Int} (h : Dy n x) (hy : Pl n y) : Sm 700000000000 4 (thP n x y) := by
  intro k hk
  have b0 := qP_bd h hy (d := 0) (by omega)
  have b1 := qP_bd h hy (d := 1) (by omega)
  have b2 := qP_bd h hy (d := 2) (by omega)
  have b3 := qP_bd h hy (d := 3) (by omega)
  unfold thP
  cases alW n x y with
  | false => show _ ≤ (0 : Int) ∧ (0 : Int) ≤ _; omega
  | true =>
    show _ ≤ csP n (qP n x y) k ∧ csP n (qP n x y) k ≤ _
    unfold csP cut
    generalize qP n x y = q at *
    by_cases e : k < n
    · rw [if_pos e]
      match k, hk with
      | 0, _ => show _ ≤ q 0 ∧ q 0 ≤ _; omega
      | 1, _ => show _ ≤ q 1 - q 0 ∧ q 1 - q 0 ≤ _; omega
      | 2, _ => show _ ≤ q 2 - q 1 - (q 1 - q 0) ∧ q 2 - q 1 - (q 1 - q 0) ≤ _; omega
      | 3, _ => show _ ≤ q 3 - q 2 - (q 2 - q 1) - (q 2 - q 1 - (q 1 - q 0)) ∧ q 3 - q 2 - (q 2 - q 1) - (q 2 - q 1 - (q 1 - q 0)) ≤ _; omega
    · rw [if_neg e]; omega
theorem path_facts (d : Nat) (hd : d ≤ 3) (ex : Bool) (n : Nat) (a b : Nat → Int) (hv : ckL d n a b = 0) {c : C4} {q : List C4} (hF : mpS d n a b (2 ^ n) = c :: q) :
    ∃ g : Nat → Int, Sm 700000000000 4 g ∧ (∀ k, d < k → g k = 0) ∧ cnF (psF g a b) n = mxC (cnC n a b) (prQ (c :: q)) ∧ d + 1 ≤ mxC (cnC n a b) (prQ (c :: q)) ∧ mxC (cnC n a b) (prQ (c :: q)) ≤ n ∧
      ∀ h, CallOk Try.prog 35 [lgV d ex n a b] h (.tup [.rsl false 1 (d + 1) (iG g), .int .i64 0]) h := by
  have l := (ckL_lg hv).2
  obtain ⟨hM, g, hg, hl, hl2⟩ := best_set hF
  have kP := fun h => pathP_new h d hd ex n a b hv hF g hg hl hl2
  unfold lvG at hl
  rw [Bool.and_eq_true, Bool.and_eq_true, decide_eq_true_eq, decide_eq_true_eq] at hl
  have hmem := mpS_all (D := d) (a := a) (b := b) _ g hg hl.1 hl.2.1
  have hge := mx_ge (cn := cnC n a b) (q := c :: q) (c := c4 (crG n a b g)) (by rw [← hF]; exact hmem)
  have h2 := ((mpS_iff hd l).1 hmem).2
  rw [cnC_eq] at hge h2
  exact ⟨crG n a b g, csP_sm2 (slF_dy (by omega) l.rg l.up) (slF_pl l.at'), fun k hk => th_z (by omega), by omega, by omega, hM, kP⟩
end Go.Proofs.K
