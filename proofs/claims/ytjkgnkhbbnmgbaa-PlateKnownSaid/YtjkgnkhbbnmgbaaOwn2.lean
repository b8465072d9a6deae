/- What the functions answer that the laws call, one after another, part 2. -/
import Derived.Test.YtjkgnkhbbnmgbaaOwn1

set_option linter.unusedVariables false
namespace Go.Proofs.P
open Go.As
set_option maxRecDepth 20000
set_option linter.unusedVariables false
set_option linter.unusedSimpArgs false
theorem cir_4 : ((List.range 8).all fun m => cirOk 4 m) = true := by kernel_rfl
theorem cirR_4 : ((List.range 8).all fun m => cirROk 4 m) = true := by kernel_rfl
end Go.Proofs.P

namespace Go.Proofs.P
open Go.As
set_option maxRecDepth 20000
set_option linter.unusedVariables false
set_option linter.unusedSimpArgs false
theorem cir_5 : ((List.range 8).all fun m => cirOk 5 m) = true := by kernel_rfl
theorem cirR_5 : ((List.range 8).all fun m => cirROk 5 m) = true := by kernel_rfl
end Go.Proofs.P

namespace Go.Proofs.P
open Go.As
set_option maxRecDepth 20000
set_option linter.unusedVariables false
set_option linter.unusedSimpArgs false
theorem cir_6 : ((List.range 8).all fun m => cirOk 6 m) = true := by kernel_rfl
theorem cirR_6 : ((List.range 8).all fun m => cirROk 6 m) = true := by kernel_rfl
end Go.Proofs.P

namespace Go.Proofs.P
open Go.As
set_option maxRecDepth 20000
set_option linter.unusedVariables false
set_option linter.unusedSimpArgs false
theorem cir_7 : ((List.range 8).all fun m => cirOk 7 m) = true := by kernel_rfl
theorem cirR_7 : ((List.range 8).all fun m => cirROk 7 m) = true := by kernel_rfl
end Go.Proofs.P

namespace Go.Proofs.P
open Go.As
set_option maxRecDepth 20000
set_option linter.unusedVariables false
set_option linter.unusedSimpArgs false
theorem cir_8 : ((List.range 8).all fun m => cirOk 8 m) = true := by kernel_rfl
theorem cirR_8 : ((List.range 8).all fun m => cirROk 8 m) = true := by kernel_rfl
end Go.Proofs.P

namespace Go.Proofs.P
open Go.As
set_option maxRecDepth 20000
set_option linter.unusedVariables false
set_option linter.unusedSimpArgs false
theorem cir_all {n m : Nat} (hn : 1 ≤ n ∧ n ≤ 8) (hm : m < 8) : cirOk n m = true ∧ cirROk n m = true := by
  have e : n = 1 ∨ n = 2 ∨ n = 3 ∨ n = 4 ∨ n = 5 ∨ n = 6 ∨ n = 7 ∨ n = 8 := by omega
  have a := List.all_eq_true.1 cir123
  have b := List.all_eq_true.1 cirR123
  rcases e with rfl | rfl | rfl | rfl | rfl | rfl | rfl | rfl
  · exact ⟨all_range (a 1 (by decide)) hm, all_range (b 1 (by decide)) hm⟩
  · exact ⟨all_range (a 2 (by decide)) hm, all_range (b 2 (by decide)) hm⟩
  · exact ⟨all_range (a 3 (by decide)) hm, all_range (b 3 (by decide)) hm⟩
  · exact ⟨all_range cir_4 hm, all_range cirR_4 hm⟩
  · exact ⟨all_range cir_5 hm, all_range cirR_5 hm⟩
  · exact ⟨all_range cir_6 hm, all_range cirR_6 hm⟩
  · exact ⟨all_range cir_7 hm, all_range cirR_7 hm⟩
  · exact ⟨all_range cir_8 hm, all_range cirR_8 hm⟩
theorem circles_ok (h : H) (n m : Nat) (hn : 1 ≤ n ∧ n ≤ 8) (hm : m < 8) : CallOk Try.prog 31 [nV n, nV m] h (.tup [nV (cirN n m), nV 0]) h :=
  CallOk.everyBare (.of_chk mixed k1_ok 3000 (cir_all hn hm).1) rfl rfl h
theorem circlesOf_ok (h : H) (n m : Nat) (hn : 1 ≤ n ∧ n ≤ 8) (hm : m < 8) : CallOk Try.prog 76 [nV n, nV m] h (nV (cirN n m)) h :=
  CallOk.everyBare (.of_chk mixed k1_ok 3000 (cir_all hn hm).2) rfl rfl h
end Go.Proofs.P

