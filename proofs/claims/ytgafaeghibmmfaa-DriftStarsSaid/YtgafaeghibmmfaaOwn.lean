/- What the functions answer that the law calls, one after another; and the law. -/
import Derived.Test.YtgafaeghibmmfaaAs4
import Derived.Test.YtgafaeghibmmfaaProg
import Derived.KernelRfl
import Derived.Test.YtgafaeghibmmfaaWorks
import Derived.Test.YtgafaeghibmmfaaRows
import Derived.WalkKit
import Derived.ProofKit

set_option linter.unusedVariables false
namespace Go.Proofs.D
open Go.As
set_option maxRecDepth 20000

theorem whole_ok (h : H) (n : Int) : CallOk Try.prog 116 [.int .i64 n] h (.agg [.int .i64 n, .int .i64 1]) h := by
  refine CallOk.of_view Try.func116 rfl rfl (argsC := [.int .i64 n]) (bs := []) (Nat.le_of_ble_eq_true rfl) [] (.cons (.bare rfl) .nil) (viewOk0 h) (WpC.of_vc ?_) rfl
  conv => whnf
  exact ⟨by first | exact .inr rfl | exact .inl rfl, rfl, _, rfl, rfl⟩

theorem isNaN_ok (h : H) (n : Int) : CallOk Try.prog 141 [.int .i64 n] h (.bool false) h := by
  refine CallOk.of_view Try.func141 rfl rfl (argsC := [.int .i64 n]) (bs := []) (Nat.le_of_ble_eq_true rfl) [] (.cons (.bare rfl) .nil) (viewOk0 h) (WpC.of_vc ?_) rfl
  conv => whnf
  exact ⟨by first | exact .inr rfl | exact .inl rfl, rfl, _, rfl, by show some (V.bool (decide (n ≠ n))) = _; simp⟩

def cmp3 (x y : Int) : Int := if x < y then -1 else if y < x then 1 else 0

theorem cmp_ok (h : H) (x y : Int) : CallOk Try.prog 120 [.int .i64 x, .int .i64 y] h (.int .i64 (cmp3 x y)) h := by
  refine CallOk.of_view Try.func120 rfl rfl (argsC := [.int .i64 x, .int .i64 y]) (bs := []) (Nat.le_of_ble_eq_true rfl) [] (.cons (.bare rfl) (.cons (.bare rfl) .nil)) (viewOk0 h) (WpC.of_vc ?_) rfl
  conv => whnf
  refine ⟨_, _, isNaN_ok _ _, ?_⟩
  conv => whnf
  refine ⟨_, _, isNaN_ok _ _, ?_⟩
  conv => whnf
  refine ifb_mk (fun hc => ?_) (fun hc => ?_)
  · have hc := of_decide_eq_true hc
    have e : cmp3 x y = -1 := by simp [cmp3, hc]
    rw [e]
    conv => whnf
    exact ⟨by first | exact .inr rfl | exact .inl rfl, rfl, _, rfl, rfl⟩
  · have hc := of_decide_eq_false hc
    conv => whnf
    refine ifb_mk (fun hd => ?_) (fun hd => ?_)
    · have hd := of_decide_eq_true hd
      have e : cmp3 x y = 1 := by simp [cmp3, hc, hd]
      rw [e]
      conv => whnf
      exact ⟨by first | exact .inr rfl | exact .inl rfl, rfl, _, rfl, rfl⟩
    · have hd := of_decide_eq_false hd
      have e : cmp3 x y = 0 := by simp [cmp3, hc, hd]
      rw [e]
      conv => whnf
      exact ⟨by first | exact .inr rfl | exact .inl rfl, rfl, _, rfl, rfl⟩

theorem compare_ok (h : H) (a b c d : Int) (h1 : InR (a * d)) (h2 : InR (c * b)) : CallOk Try.prog 84 [.agg [.int .i64 a, .int .i64 b], .agg [.int .i64 c, .int .i64 d]] h (.int .i64 (cmp3 (a * d) (c * b))) h := by
  refine CallOk.of_view Try.func84 rfl rfl (argsC := [.agg [.int .i64 a, .int .i64 b], .agg [.int .i64 c, .int .i64 d]]) (bs := []) (Nat.le_of_ble_eq_true rfl) [] (.cons (CaL.agg (.cons (.bare rfl) (.cons (.bare rfl) .nil))) (.cons (CaL.agg (.cons (.bare rfl) (.cons (.bare rfl) .nil))) .nil)) (viewOk0 h) (WpC.of_vc ?_) rfl
  conv => whnf
  refine ⟨h1, ?_⟩
  conv => whnf
  refine ⟨h2, ?_⟩
  conv => whnf
  refine ⟨_, _, cmp_ok _ _ _, ?_⟩
  conv => whnf
  exact ⟨by first | exact .inr rfl | exact .inl rfl, rfl, _, rfl, rfl⟩
end Go.Proofs.D

namespace Go.Proofs.D
open Go.As
set_option maxRecDepth 20000

theorem mixed : Try.prog.follows .mixedOrders = true := by kernel_rfl

theorem gcd_step (x y : Int) (hx : 0 < x) (hy : 0 < y) : Int.gcd (y.tmod x) x = Int.gcd x y := by
  obtain ⟨m, rfl⟩ := Int.eq_ofNat_of_zero_le (show 0 ≤ x by omega)
  obtain ⟨n, rfl⟩ := Int.eq_ofNat_of_zero_le (show 0 ≤ y by omega)
  rw [Int.tmod_eq_emod_of_nonneg (by omega), ← Int.natCast_emod]
  show Nat.gcd (n % m) m = Nat.gcd m n
  exact (Nat.gcd_rec m n).symm

theorem divisor_ok (h : H) (a b : Int) (ha : -4611686018427387904 ≤ a ∧ a ≤ 4611686018427387904) (hb : 0 < b ∧ b ≤ 4611686018427387904) : CallOk Try.prog 140 [.int .i64 a, .int .i64 b] h (.int .i64 (Int.gcd a b)) h := by
  refine CallOk.of_view Try.func140 rfl rfl (argsC := [.int .i64 a, .int .i64 b]) (bs := []) (Nat.le_of_ble_eq_true rfl) [] (.cons (.bare rfl) (.cons (.bare rfl) .nil)) (viewOk0 h) (WpC.of_vc ?_) rfl
  conv => whnf
  refine ifb_mk (fun hc => ?_) (fun hc => ?_)
  · have hc := of_decide_eq_true hc
    conv => whnf
    refine ⟨by unfold InR; omega, ?_⟩
    conv => whnf
    refine WpC.loopS (S := fun p : Int × Int => ⟨tm [(0, .int .i64 p.1), (1, .int .i64 p.2)], 16, [], hp []⟩) (μ := fun p => p.1.toNat) (J := fun p => 0 ≤ p.1 ∧ p.1 ≤ 4611686018427387904 ∧ 0 < p.2 ∧ p.2 ≤ 4611686018427387904 ∧ Int.gcd p.1 p.2 = Int.gcd a b) ?_ (-a, b) ⟨by dsimp only; omega, by dsimp only; omega, hb.1, hb.2, by simp⟩ (Drop.mk' (Nat.le_of_ble_eq_true rfl) ⟨⟨rfl, by first | rfl | exact hsv.vlt (Nat.le_of_ble_eq_true rfl) | exact hsw.vlt (Nat.le_of_ble_eq_true rfl)⟩, ⟨rfl, by first | rfl | exact hsv.vlt (Nat.le_of_ble_eq_true rfl) | exact hsw.vlt (Nat.le_of_ble_eq_true rfl)⟩, trivial⟩ trivial)
    rintro ⟨x, y⟩ ⟨h0, h1, h2, h3, hg⟩
    dsimp only at h0 h1 h2 h3 hg
    refine WpC.of_vc ?_
    conv => whnf
    refine ifb_mk (fun hc => ?_) (fun hc => ?_)
    · have hx : x ≠ 0 := of_decide_eq_true hc
      conv => whnf
      have e : y.tmod x = y % x := Int.tmod_eq_emod_of_nonneg (by omega)
      have l0 := Int.emod_nonneg y hx
      have l1 := Int.emod_lt_of_pos y (show 0 < x by omega)
      refine ⟨hx, by unfold InR; dsimp only; omega, ?_⟩
      conv => whnf
      exact ⟨(y.tmod x, x), by dsimp only; omega, ⟨by dsimp only; omega, by dsimp only; omega, by dsimp only; omega, by dsimp only; omega, by rw [gcd_step x y (by omega) (by omega)]; exact hg⟩, (Drop.mk' (Nat.le_of_ble_eq_true rfl) ⟨⟨rfl, by first | rfl | exact hsv.vlt (Nat.le_of_ble_eq_true rfl) | exact hsw.vlt (Nat.le_of_ble_eq_true rfl)⟩, ⟨rfl, by first | rfl | exact hsv.vlt (Nat.le_of_ble_eq_true rfl) | exact hsw.vlt (Nat.le_of_ble_eq_true rfl)⟩, trivial⟩ trivial)⟩
    · have hx : x = 0 := by have := of_decide_eq_false hc; omega
      subst hx
      conv => whnf
      refine ⟨.inr rfl, rfl, _, rfl, ?_⟩
      rw [← hg]
      have : (Int.gcd 0 y : Int) = y := by rw [Int.gcd_zero_left]; omega
      rw [this]
      rfl
  · have hc := of_decide_eq_false hc
    conv => whnf
    refine WpC.loopS (S := fun p : Int × Int => ⟨tm [(0, .int .i64 p.1), (1, .int .i64 p.2)], 16, [], hp []⟩) (μ := fun p => p.1.toNat) (J := fun p => 0 ≤ p.1 ∧ p.1 ≤ 4611686018427387904 ∧ 0 < p.2 ∧ p.2 ≤ 4611686018427387904 ∧ Int.gcd p.1 p.2 = Int.gcd a b) ?_ (a, b) ⟨by dsimp only; omega, by dsimp only; omega, hb.1, hb.2, by simp⟩ (Drop.mk' (Nat.le_of_ble_eq_true rfl) ⟨⟨rfl, by first | rfl | exact hsv.vlt (Nat.le_of_ble_eq_true rfl) | exact hsw.vlt (Nat.le_of_ble_eq_true rfl)⟩, ⟨rfl, by first | rfl | exact hsv.vlt (Nat.le_of_ble_eq_true rfl) | exact hsw.vlt (Nat.le_of_ble_eq_true rfl)⟩, trivial⟩ trivial)
    rintro ⟨x, y⟩ ⟨h0, h1, h2, h3, hg⟩
    dsimp only at h0 h1 h2 h3 hg
    refine WpC.of_vc ?_
    conv => whnf
    refine ifb_mk (fun hc => ?_) (fun hc => ?_)
    · have hx : x ≠ 0 := of_decide_eq_true hc
      conv => whnf
      have e : y.tmod x = y % x := Int.tmod_eq_emod_of_nonneg (by omega)
      have l0 := Int.emod_nonneg y hx
      have l1 := Int.emod_lt_of_pos y (show 0 < x by omega)
      refine ⟨hx, by unfold InR; dsimp only; omega, ?_⟩
      conv => whnf
      exact ⟨(y.tmod x, x), by dsimp only; omega, ⟨by dsimp only; omega, by dsimp only; omega, by dsimp only; omega, by dsimp only; omega, by rw [gcd_step x y (by omega) (by omega)]; exact hg⟩, (Drop.mk' (Nat.le_of_ble_eq_true rfl) ⟨⟨rfl, by first | rfl | exact hsv.vlt (Nat.le_of_ble_eq_true rfl) | exact hsw.vlt (Nat.le_of_ble_eq_true rfl)⟩, ⟨rfl, by first | rfl | exact hsv.vlt (Nat.le_of_ble_eq_true rfl) | exact hsw.vlt (Nat.le_of_ble_eq_true rfl)⟩, trivial⟩ trivial)⟩
    · have hx : x = 0 := by have := of_decide_eq_false hc; omega
      subst hx
      conv => whnf
      refine ⟨.inr rfl, rfl, _, rfl, ?_⟩
      rw [← hg]
      have : (Int.gcd 0 y : Int) = y := by rw [Int.gcd_zero_left]; omega
      rw [this]
      rfl

theorem gcd_pos (a b : Int) (hb : 0 < b) : 0 < (Int.gcd a b : Int) := by
  have := Int.gcd_pos_of_ne_zero_right a (show b ≠ 0 by omega)
  omega

theorem tdiv_bd (a g : Int) (hg : 0 < g) (m : Int) (ha : -m ≤ a ∧ a ≤ m) : -m ≤ a.tdiv g ∧ a.tdiv g ≤ m := by
  have h1 : (a.tdiv g).natAbs ≤ a.natAbs := by rw [Int.natAbs_tdiv]; exact Nat.div_le_self _ _
  omega

theorem fraction_ok (h : H) (a b : Int) (ha : -4611686018427387904 ≤ a ∧ a ≤ 4611686018427387904) (hb : 0 < b ∧ b ≤ 4611686018427387904) :
    CallOk Try.prog 118 [.int .i64 a, .int .i64 b] h (.agg [.int .i64 (a.tdiv (Int.gcd a b)), .int .i64 (b.tdiv (Int.gcd a b))]) h := by
  have hgp := gcd_pos a b hb.1
  have h1 := tdiv_bd a _ hgp _ ha
  have h2 := tdiv_bd b _ hgp 4611686018427387904 (by omega)
  refine CallOk.of_view Try.func118 rfl rfl (argsC := [.int .i64 a, .int .i64 b]) (bs := []) (Nat.le_of_ble_eq_true rfl) [] (.cons (.bare rfl) (.cons (.bare rfl) .nil)) (viewOk0 h) (WpC.of_vc ?_) rfl
  conv => whnf
  refine ⟨_, _, divisor_ok _ a b ha hb, ?_⟩
  conv => whnf
  refine WpC.draw mixed [0, 1, 2, 3, 4, 5, 6, 7] [0, 0, 3, 0, 0, 24, 63, 127] (by kernel_rfl) ?_
  conv => whnf
  refine ⟨by omega, by unfold InR; omega, ?_⟩
  conv => whnf
  refine ⟨by omega, by unfold InR; omega, ?_⟩
  conv => whnf
  refine ⟨?_, ?_⟩
  · conv => whnf
    (repeat' (first | exact True.intro | rfl | refine And.intro ?_ ?_))
  · conv => whnf
    exact ⟨by first | exact .inr rfl | exact .inl rfl, rfl, _, rfl, rfl⟩
end Go.Proofs.D

namespace Go.Proofs.D
open Go.As
set_option maxRecDepth 20000

theorem SlC.lit {h : H} {l : List V} {n b cap : Nat} {ex w : Bool} {g : Option (Nat × Nat)} (hb : h.get b = some (.cells (ofL l 0) w g)) : SlC h l n (.sl b 0 n cap ex) :=
  .sl hb (fun i v hi => by rw [Nat.zero_add]; exact get_ofL0 hi)

theorem mulBd {a b A B : Int} (ha : -A ≤ a ∧ a ≤ A) (hb : -B ≤ b ∧ b ≤ B) : -(A * B) ≤ a * b ∧ a * b ≤ A * B := by
  have h1 : a.natAbs ≤ A.natAbs := by omega
  have h2 : b.natAbs ≤ B.natAbs := by omega
  have h3 := Nat.mul_le_mul h1 h2
  rw [← Int.natAbs_mul, ← Int.natAbs_mul] at h3
  have h4 : 0 ≤ A * B := Int.mul_nonneg (by omega) (by omega)
  omega

/-! ### within -/

theorem drop_at {α : Type} {l : List α} {i : Nat} {x : α} (h : l[i]? = some x) : l.drop i = x :: l.drop (i + 1) := by
  obtain ⟨hi, rfl⟩ := List.getElem?_eq_some_iff.1 h
  exact List.drop_eq_getElem_cons hi

theorem within_ok (h : H) (lo hi : Int) (l : List Int) (sv : V) (hl : l.length ≤ 9223372036854775807) (hs : SlC h (l.map (V.int .i64)) l.length sv) :
    CallOk Try.prog 48 [.int .i64 lo, .int .i64 hi, sv] h (.bool (l.all fun x => decide (lo ≤ x ∧ x ≤ hi))) h := by
  obtain ⟨vo, svC, hsv, hca, hvw⟩ := hs.view 0
  refine CallOk.of_view Try.func48 rfl rfl (argsC := [.int .i64 lo, .int .i64 hi, svC]) (Nat.le_of_ble_eq_true rfl) [vo] (.cons (.bare rfl) (.cons (.bare rfl) (.cons (hca _ rfl) .nil))) (viewOk1 bare0_ints hvw) (WpC.of_vc ?_) rfl
  have hv : ∀ k v, (ofL (l.map (V.int .i64)) 0).get k = some v → vlt 1 v = true := vlt_ofL bare0_ints
  conv => whnf
  refine som_mk hsv.len ?_
  conv => whnf
  refine WpC.loopS (S := fun i : Nat => ⟨tm [(0, .int .i64 lo), (1, .int .i64 hi), (9, svC), (10, .int .i64 l.length), (11, .int .i64 i)], 24, [], hp [.cells (ofL (l.map (.int .i64)) 0) false none]⟩)
    (μ := fun i => l.length - i) (J := fun i => i ≤ l.length ∧ (l.all fun x => decide (lo ≤ x ∧ x ≤ hi)) = (l.drop i).all fun x => decide (lo ≤ x ∧ x ≤ hi)) ?_ 0 ⟨by omega, by simp⟩ (Drop.mk' (Nat.le_of_ble_eq_true rfl) ⟨⟨rfl, by first | rfl | exact hsv.vlt (Nat.le_of_ble_eq_true rfl) | exact hsw.vlt (Nat.le_of_ble_eq_true rfl)⟩, ⟨rfl, by first | rfl | exact hsv.vlt (Nat.le_of_ble_eq_true rfl) | exact hsw.vlt (Nat.le_of_ble_eq_true rfl)⟩, ⟨rfl, by first | rfl | exact hsv.vlt (Nat.le_of_ble_eq_true rfl) | exact hsw.vlt (Nat.le_of_ble_eq_true rfl)⟩, ⟨rfl, by first | rfl | exact hsv.vlt (Nat.le_of_ble_eq_true rfl) | exact hsw.vlt (Nat.le_of_ble_eq_true rfl)⟩, ⟨rfl, by first | rfl | exact hsv.vlt (Nat.le_of_ble_eq_true rfl) | exact hsw.vlt (Nat.le_of_ble_eq_true rfl)⟩, trivial⟩ ⟨⟨_, rfl, .same hv⟩, trivial⟩)
  rintro i ⟨h1, hP⟩
  refine WpC.of_vc ?_
  conv => whnf
  refine ifb_mk (fun hc => ?_) (fun hc => ?_)
  · have hlt : i < l.length := by have := of_decide_eq_true hc; omega
    have hx : l[i]? = some l[i] := List.getElem?_eq_getElem hlt
    rw [drop_at hx, List.all_cons] at hP
    have hS := hsv
    cases hsv with
    | nil h0 => omega
    | sl =>
    have hsv := hS
    conv => whnf
    refine ⟨by omega, by omega, ?_⟩
    conv => whnf
    refine som_mk (get_ints (o := 0 + (i : Int).toNat * 1) (x := l[i]) (by simp)) ?_
    conv => whnf
    refine ifb_mk (fun h => ?_) (fun h => ?_)
    · have h := of_decide_eq_true h
      have e : decide (lo ≤ l[i] ∧ l[i] ≤ hi) = false := decide_eq_false (by omega)
      rw [hP, e, Bool.false_and]
      conv => whnf
      exact ⟨by first | exact .inr rfl | exact .inl rfl, rfl, _, rfl, rfl⟩
    · have h := of_decide_eq_false h
      conv => whnf
      refine ifb_mk (fun h => ?_) (fun h => ?_)
      · have h := of_decide_eq_true h
        have e : decide (lo ≤ l[i] ∧ l[i] ≤ hi) = false := decide_eq_false (by omega)
        rw [hP, e, Bool.false_and]
        conv => whnf
        exact ⟨by first | exact .inr rfl | exact .inl rfl, rfl, _, rfl, rfl⟩
      · have h' := of_decide_eq_false h
        have e : decide (lo ≤ l[i] ∧ l[i] ≤ hi) = true := decide_eq_true (by omega)
        rw [e, Bool.true_and] at hP
        conv => whnf
        refine ⟨by unfold InR; omega, ?_⟩
        conv => whnf
        exact ⟨i + 1, by omega, ⟨by omega, hP⟩, (Drop.mk' (Nat.le_of_ble_eq_true rfl) ⟨⟨rfl, by first | rfl | exact hsv.vlt (Nat.le_of_ble_eq_true rfl) | exact hsw.vlt (Nat.le_of_ble_eq_true rfl)⟩, ⟨rfl, by first | rfl | exact hsv.vlt (Nat.le_of_ble_eq_true rfl) | exact hsw.vlt (Nat.le_of_ble_eq_true rfl)⟩, ⟨rfl, by first | rfl | exact hsv.vlt (Nat.le_of_ble_eq_true rfl) | exact hsw.vlt (Nat.le_of_ble_eq_true rfl)⟩, ⟨rfl, by first | rfl | exact hsv.vlt (Nat.le_of_ble_eq_true rfl) | exact hsw.vlt (Nat.le_of_ble_eq_true rfl)⟩, ⟨rfl, by first | rfl | exact hsv.vlt (Nat.le_of_ble_eq_true rfl) | exact hsw.vlt (Nat.le_of_ble_eq_true rfl)⟩, trivial⟩ ⟨⟨_, rfl, .same hv⟩, trivial⟩)⟩
  · have hlt := of_decide_eq_false hc
    rw [List.drop_eq_nil_of_le (by omega), List.all_nil] at hP
    rw [hP]
    conv => whnf
    exact ⟨by first | exact .inr rfl | exact .inl rfl, rfl, _, rfl, rfl⟩

/-! ### Ranges -/

def vr (lo hi m : Int) : Bool := decide (-m ≤ lo ∧ lo ≤ hi ∧ hi ≤ m)

theorem validRange_ok (h : H) (lo hi m : Int) (hm : InR m) (hm' : 0 ≤ m) : CallOk Try.prog 47 [.agg [.int .i64 lo, .int .i64 hi], .int .i64 m] h (.bool (vr lo hi m)) h := by
  refine CallOk.of_view Try.func47 rfl rfl (argsC := [.agg [.int .i64 lo, .int .i64 hi], .int .i64 m]) (bs := []) (Nat.le_of_ble_eq_true rfl) [] (.cons (CaL.agg (.cons (.bare rfl) (.cons (.bare rfl) .nil))) (.cons (.bare rfl) .nil)) (viewOk0 h) (WpC.of_vc ?_) rfl
  unfold InR at hm
  conv => whnf
  refine ifb_mk (fun hc => ?_) (fun hc => ?_)
  · have hc := of_decide_eq_true hc
    have e : vr lo hi m = [lo, hi].all (fun x => decide (-m ≤ x ∧ x ≤ m)) := by
      unfold vr; rw [Bool.eq_iff_iff]; simp; omega
    conv => whnf
    refine ⟨by unfold InR; omega, ?_⟩
    conv => whnf
    refine ⟨_, _, within_ok _ (-m) m [lo, hi] _ (by simp) (SlC.lit rfl), ?_⟩
    rw [e]
    conv => whnf
    exact ⟨by first | exact .inr rfl | exact .inl rfl, rfl, _, rfl, rfl⟩
  · have hc := of_decide_eq_false hc
    have e : vr lo hi m = false := by unfold vr; exact decide_eq_false (by omega)
    rw [e]
    conv => whnf
    exact ⟨by first | exact .inr rfl | exact .inl rfl, rfl, _, rfl, rfl⟩

theorem isRange_ok (h : H) (lo hi m : Int) (hm : InR m) (hm' : 0 ≤ m) : CallOk Try.prog 49 [.agg [.int .i64 lo, .int .i64 hi], .int .i64 m] h (.bool (vr lo hi m)) h := by
  refine CallOk.of_view Try.func49 rfl rfl (argsC := [.agg [.int .i64 lo, .int .i64 hi], .int .i64 m]) (bs := []) (Nat.le_of_ble_eq_true rfl) [] (.cons (CaL.agg (.cons (.bare rfl) (.cons (.bare rfl) .nil))) (.cons (.bare rfl) .nil)) (viewOk0 h) (WpC.of_vc ?_) rfl
  unfold InR at hm
  conv => whnf
  refine ⟨by unfold InR; omega, ?_⟩
  conv => whnf
  refine ifb_mk (fun hc => ?_) (fun hc => ?_)
  · have hc := of_decide_eq_true hc
    conv => whnf
    refine ifb_mk (fun hd => ?_) (fun hd => ?_)
    · have hd := of_decide_eq_true hd
      have e : vr lo hi m = decide (hi ≤ m) := by unfold vr; exact decide_eq_decide.2 (by omega)
      rw [e]
      conv => whnf
      exact ⟨by first | exact .inr rfl | exact .inl rfl, rfl, _, rfl, rfl⟩
    · have hd := of_decide_eq_false hd
      have e : vr lo hi m = false := by unfold vr; exact decide_eq_false (by omega)
      rw [e]
      conv => whnf
      exact ⟨by first | exact .inr rfl | exact .inl rfl, rfl, _, rfl, rfl⟩
  · have hc := of_decide_eq_false hc
    have e : vr lo hi m = false := by unfold vr; exact decide_eq_false (by omega)
    rw [e]
    conv => whnf
    exact ⟨by first | exact .inr rfl | exact .inl rfl, rfl, _, rfl, rfl⟩
end Go.Proofs.D

namespace Go.Proofs.D
open Go.As
set_option maxRecDepth 20000

/-! ### Entries -/

abbrev E := Int × Int × Int
def entV (e : E) : List V := [.int .i64 e.1, .int .i64 e.2.1, .int .i64 e.2.2]
def entVs : List E → List V
  | [] => []
  | e :: l => .int .i64 e.1 :: .int .i64 e.2.1 :: .int .i64 e.2.2 :: entVs l

theorem entVs_bare : ∀ {l : List E}, ∀ v ∈ entVs l, bare0 v = true
  | [], v, h => by cases h
  | e :: l, v, h => by
    simp only [entVs, List.mem_cons] at h
    rcases h with rfl | rfl | rfl | h
    · rfl
    · rfl
    · rfl
    · exact entVs_bare v h

theorem entVs_get : ∀ {l : List E} {i : Nat} {e : E}, l[i]? = some e → (entVs l)[i * 3]? = some (.int .i64 e.1) ∧ (entVs l)[i * 3 + 1]? = some (.int .i64 e.2.1) ∧ (entVs l)[i * 3 + 2]? = some (.int .i64 e.2.2)
  | [], i, e, h => by simp at h
  | x :: l, 0, e, h => by simp at h; subst h; exact ⟨rfl, rfl, rfl⟩
  | x :: l, i + 1, e, h => by
    have := entVs_get (l := l) (i := i) (e := e) (by simpa using h)
    rw [show (i + 1) * 3 = i * 3 + 1 + 1 + 1 from by omega]
    simpa [entVs] using this

theorem getN3 {c : Tr V} {o : Nat} {x y z : V} (h0 : c.get o = some x) (h1 : c.get (o + 1) = some y) (h2 : c.get (o + 1 + 1) = some z) : getN c 3 o = some [x, y, z] := by
  show (match c.get o with
    | some v => (match (match c.get (o + 1) with
      | some v => (match (match c.get (o + 1 + 1) with
        | some v => some (v :: [])
        | none => none) with | some l => some (v :: l) | none => none)
      | none => none) with | some l => some (v :: l) | none => none)
    | none => none) = _
  rw [h0, h1, h2]

theorem getN2 {c : Tr V} {o : Nat} {x y : V} (h0 : c.get o = some x) (h1 : c.get (o + 1) = some y) : getN c 2 o = some [x, y] := by
  show (match c.get o with
    | some v => (match (match c.get (o + 1) with
        | some v => some (v :: [])
        | none => none) with | some l => some (v :: l) | none => none)
    | none => none) = _
  rw [h0, h1]

theorem entGet0 {l : List E} {i : Nat} {e : E} (h : l[i]? = some e) {n : Int} (hn : n = i := by omega) : (ofL (entVs l) 0).get (0 + n.toNat * 3 + 0) = some (.int .i64 e.1) := get_ofL0 (by have := (entVs_get h).1; subst hn; simpa using this)
theorem entGet1 {l : List E} {i : Nat} {e : E} (h : l[i]? = some e) {n : Int} (hn : n = i := by omega) : (ofL (entVs l) 0).get (0 + n.toNat * 3 + 1) = some (.int .i64 e.2.1) := get_ofL0 (by have := (entVs_get h).2.1; subst hn; simpa using this)
theorem entGet2 {l : List E} {i : Nat} {e : E} (h : l[i]? = some e) {n : Int} (hn : n = i := by omega) : (ofL (entVs l) 0).get (0 + n.toNat * 3 + 2) = some (.int .i64 e.2.2) := get_ofL0 (by have := (entVs_get h).2.2; subst hn; simpa using this)
theorem entGetN {l : List E} {i : Nat} {e : E} (h : l[i]? = some e) {n : Int} (hn : n = i := by omega) : getN (ofL (entVs l) 0) 3 (0 + n.toNat * 3) = some [.int .i64 e.1, .int .i64 e.2.1, .int .i64 e.2.2] :=
  getN3 (entGet0 h hn) (entGet1 h hn) (entGet2 h hn)
theorem entGetR {l : List E} {i : Nat} {e : E} (h : l[i]? = some e) {n : Int} (hn : n = i := by omega) : getN (ofL (entVs l) 0) 2 (0 + n.toNat * 3 + 1) = some [.int .i64 e.2.1, .int .i64 e.2.2] :=
  getN2 (entGet1 h hn) (entGet2 h hn)

/-! ### Stars -/

def okE (e : E) : Bool := decide (0 ≤ e.1 ∧ e.1 ≤ 200) && vr e.2.1 e.2.2 10000
def srt : List E → Bool
  | a :: b :: l => decide (a.1 < b.1) && srt (b :: l)
  | _ => true

def starErr (lo hi : Int) (l : List E) : Int :=
  if l.length < 1 ∨ 12 < l.length then 6 else if vr lo hi 500 = false then 3 else if l.all okE = false then 3 else if srt l = false then 16 else 0

theorem bnot_t {b : Bool} (h : (!b) = true) : b = false := by cases b <;> simp_all
theorem bnot_f {b : Bool} (h : (!b) = false) : b = true := by cases b <;> simp_all

theorem vlt_all {n o : Nat} {l : List V} (h : l.all (vlt n) = true) : ∀ k v, (ofL l o).get k = some v → vlt n v = true := ofL_all (fun v hv => List.all_eq_true.1 h v hv)

theorem all_one {α : Type} (p : α → Bool) (x : α) : [x].all p = p x := by simp

theorem checkStar_ok (h : H) (lo hi : Int) (l : List E) (sv : V) (hl : l.length ≤ 9223372036854775807) (hs : SlC h (entVs l) l.length sv) :
    CallOk Try.prog 8 [.agg [.int .i64 lo, .int .i64 hi, sv]] h (.int .i64 (starErr lo hi l)) h := by
  obtain ⟨vo, svC, hsv, hca, hvw⟩ := hs.view 0
  refine CallOk.of_view Try.func8 rfl rfl (argsC := [.agg [.int .i64 lo, .int .i64 hi, svC]]) (Nat.le_of_ble_eq_true rfl) [vo] (.cons (CaL.agg (.cons (.bare rfl) (.cons (.bare rfl) (.cons (hca _ rfl) .nil)))) .nil) (viewOk1 entVs_bare hvw) (WpC.of_vc ?_) rfl
  have hv : ∀ {n : Nat}, ∀ k v, (ofL (entVs l) 0).get k = some v → vlt n v = true := vlt_ofL entVs_bare
  cases hsv with
  | nil h0 =>
    have e : starErr lo hi l = 6 := by unfold starErr; rw [if_pos (by omega)]
    rw [e]
    conv => whnf
    exact ⟨by first | exact .inr rfl | exact .inl rfl, rfl, _, rfl, rfl⟩
  | @sl cap ex =>
  conv => whnf
  refine ifb_mk (fun hc => ?_) (fun hc => ?_)
  · have hc := of_decide_eq_true hc
    have e : starErr lo hi l = 6 := by unfold starErr; rw [if_pos (by omega)]
    rw [e]
    conv => whnf
    exact ⟨by first | exact .inr rfl | exact .inl rfl, rfl, _, rfl, rfl⟩
  have hc := of_decide_eq_false hc
  conv => whnf
  refine ifb_mk (fun hd => ?_) (fun hd => ?_)
  · have hd := of_decide_eq_true hd
    have e : starErr lo hi l = 6 := by unfold starErr; rw [if_pos (by omega)]
    rw [e]
    conv => whnf
    exact ⟨by first | exact .inr rfl | exact .inl rfl, rfl, _, rfl, rfl⟩
  have hd := of_decide_eq_false hd
  have e1 : starErr lo hi l = if vr lo hi 500 = false then 3 else if l.all okE = false then 3 else if srt l = false then 16 else 0 := by unfold starErr; rw [if_neg (by omega)]
  conv => whnf
  refine ⟨_, _, validRange_ok _ lo hi 500 (by unfold InR; omega) (by omega), ?_⟩
  conv => whnf
  refine ifb_mk (fun he => ?_) (fun he => ?_)
  · have he := bnot_t he
    rw [e1, if_pos he]
    conv => whnf
    exact ⟨by first | exact .inr rfl | exact .inl rfl, rfl, _, rfl, rfl⟩
  have he := bnot_f he
  have e2 : starErr lo hi l = if l.all okE = false then 3 else if srt l = false then 16 else 0 := by rw [e1, if_neg (by simp [he])]
  clear e1
  conv => whnf
  refine WpC.loopS (S := fun i : Nat => ⟨tm [(1, .ptr 1 0), (21, .sl 0 0 l.length cap ex), (22, .int .i64 l.length), (23, .int .i64 i)], 60, [], hp [.cells (ofL (entVs l) 0) false none, .cells (ofL [.int .i64 lo, .int .i64 hi, .sl 0 0 l.length cap ex] 0) true none]⟩)
    (μ := fun i => l.length - i) (J := fun i => i ≤ l.length ∧ l.all okE = (l.drop i).all okE) ?_ 0 ⟨by omega, by simp⟩ (Drop.mk' (Nat.le_of_ble_eq_true rfl) ⟨⟨rfl, by first | rfl | exact hsv.vlt (Nat.le_of_ble_eq_true rfl) | exact hsw.vlt (Nat.le_of_ble_eq_true rfl)⟩, ⟨rfl, by first | rfl | exact hsv.vlt (Nat.le_of_ble_eq_true rfl) | exact hsw.vlt (Nat.le_of_ble_eq_true rfl)⟩, ⟨rfl, by first | rfl | exact hsv.vlt (Nat.le_of_ble_eq_true rfl) | exact hsw.vlt (Nat.le_of_ble_eq_true rfl)⟩, ⟨rfl, by first | rfl | exact hsv.vlt (Nat.le_of_ble_eq_true rfl) | exact hsw.vlt (Nat.le_of_ble_eq_true rfl)⟩, trivial⟩ ⟨⟨_, rfl, .same hv⟩, ⟨_, rfl, .same (vlt_all rfl)⟩, trivial⟩)
  rintro i ⟨h1, hP⟩
  refine WpC.of_vc ?_
  conv => whnf
  refine ifb_mk (fun hc => ?_) (fun hc => ?_)
  · have hlt : i < l.length := by have := of_decide_eq_true hc; omega
    have hx : l[i]? = some l[i] := List.getElem?_eq_getElem hlt
    generalize l[i] = e at hx
    rw [drop_at hx, List.all_cons] at hP
    conv => whnf
    refine ⟨by omega, by omega, ?_⟩
    conv => whnf
    refine som_mk (entGetN hx) ?_
    conv => whnf
    refine ⟨_, _, within_ok _ 0 200 [e.1] _ (by simp) (SlC.lit rfl), ?_⟩
    rw [all_one]
    conv => whnf
    refine ifb_mk (fun hd => ?_) (fun hd => ?_)
    · have e3 : okE e = false := by unfold okE; rw [bnot_t hd, Bool.false_and]
      rw [e3, Bool.false_and] at hP
      rw [e2, if_pos hP]
      conv => whnf
      exact ⟨by first | exact .inr rfl | exact .inl rfl, rfl, _, rfl, rfl⟩
    · conv => whnf
      refine ⟨_, _, validRange_ok _ e.2.1 e.2.2 10000 (by unfold InR; omega) (by omega), ?_⟩
      conv => whnf
      have e3 : okE e = vr e.2.1 e.2.2 10000 := by unfold okE; rw [bnot_f hd, Bool.true_and]
      refine ifb_mk (fun hr => ?_) (fun hr => ?_)
      · have hr := bnot_t hr
        rw [e3, hr, Bool.false_and] at hP
        rw [e2, if_pos hP]
        conv => whnf
        exact ⟨by first | exact .inr rfl | exact .inl rfl, rfl, _, rfl, rfl⟩
      · have hr := bnot_f hr
        rw [e3, hr, Bool.true_and] at hP
        conv => whnf
        refine ⟨by unfold InR; omega, ?_⟩
        conv => whnf
        exact ⟨i + 1, by omega, ⟨by omega, hP⟩, (Drop.mk' (Nat.le_of_ble_eq_true rfl) ⟨⟨rfl, by first | rfl | exact hsv.vlt (Nat.le_of_ble_eq_true rfl) | exact hsw.vlt (Nat.le_of_ble_eq_true rfl)⟩, ⟨rfl, by first | rfl | exact hsv.vlt (Nat.le_of_ble_eq_true rfl) | exact hsw.vlt (Nat.le_of_ble_eq_true rfl)⟩, ⟨rfl, by first | rfl | exact hsv.vlt (Nat.le_of_ble_eq_true rfl) | exact hsw.vlt (Nat.le_of_ble_eq_true rfl)⟩, ⟨rfl, by first | rfl | exact hsv.vlt (Nat.le_of_ble_eq_true rfl) | exact hsw.vlt (Nat.le_of_ble_eq_true rfl)⟩, trivial⟩ ⟨⟨_, rfl, .same hv⟩, ⟨_, rfl, .same (vlt_all rfl)⟩, trivial⟩)⟩
  have hlt := of_decide_eq_false hc
  rw [List.drop_eq_nil_of_le (by omega), List.all_nil] at hP
  have e3 : starErr lo hi l = if srt l = false then 16 else 0 := by rw [e2, if_neg (by simp [hP])]
  clear e2
  conv => whnf
  refine WpC.loopS (S := fun j : Nat => ⟨tm [(1, .ptr 1 0), (5, .int .i64 ((j : Int) + 1))], 60, [], hp [.cells (ofL (entVs l) 0) false none, .cells (ofL [.int .i64 lo, .int .i64 hi, .sl 0 0 l.length cap ex] 0) true none]⟩)
    (μ := fun i => l.length - i) (J := fun j => j + 1 ≤ l.length ∧ srt l = srt (l.drop j)) ?_ 0 ⟨by omega, by simp⟩ (Drop.mk' (Nat.le_of_ble_eq_true rfl) ⟨⟨rfl, by first | rfl | exact hsv.vlt (Nat.le_of_ble_eq_true rfl) | exact hsw.vlt (Nat.le_of_ble_eq_true rfl)⟩, ⟨rfl, by first | rfl | exact hsv.vlt (Nat.le_of_ble_eq_true rfl) | exact hsw.vlt (Nat.le_of_ble_eq_true rfl)⟩, trivial⟩ ⟨⟨_, rfl, .same hv⟩, ⟨_, rfl, .same (vlt_all rfl)⟩, trivial⟩)
  rintro i ⟨h1, hP⟩
  refine WpC.of_vc ?_
  conv => whnf
  refine ifb_mk (fun hc => ?_) (fun hc => ?_)
  · have hlt : i + 1 < l.length := by have := of_decide_eq_true hc; omega
    have hx : l[i]? = some l[i] := List.getElem?_eq_getElem (by omega)
    have hy : l[i + 1]? = some l[i + 1] := List.getElem?_eq_getElem hlt
    generalize l[i] = e at hx
    generalize l[i + 1] = f at hy
    rw [drop_at hx, drop_at hy] at hP
    have hS : srt (e :: f :: l.drop (i + 1 + 1)) = (decide (e.1 < f.1) && srt (l.drop (i + 1))) := by rw [drop_at hy]; rfl
    rw [hS] at hP
    conv => whnf
    refine WpC.draw mixed [0, 1, 2, 3, 4, 5, 6, 7, 8, 9, 10, 11, 12, 13] [0, 1, 0, 7, 15, 31, 0, 64, 0, 256, 960, 1984, 4032, 8191] (by kernel_rfl) ?_
    conv => whnf
    refine ⟨by omega, by omega, ?_⟩
    conv => whnf
    refine som_mk (entGet0 hy) ?_
    conv => whnf
    refine ⟨by unfold InR; omega, ?_⟩
    conv => whnf
    refine ⟨by omega, by omega, ?_⟩
    conv => whnf
    refine som_mk (entGet0 hx) ?_
    conv => whnf
    refine ⟨?_, ?_⟩
    · conv => whnf
      (repeat' (first | exact True.intro | rfl | refine And.intro ?_ ?_))
    conv => whnf
    refine ifb_mk (fun hd => ?_) (fun hd => ?_)
    · have hd := of_decide_eq_true hd
      rw [decide_eq_false (by omega), Bool.false_and] at hP
      rw [e3, if_pos hP]
      conv => whnf
      exact ⟨by first | exact .inr rfl | exact .inl rfl, rfl, _, rfl, rfl⟩
    · have hd := of_decide_eq_false hd
      rw [decide_eq_true (by omega), Bool.true_and] at hP
      conv => whnf
      refine ⟨by unfold InR; omega, ?_⟩
      conv => whnf
      exact ⟨i + 1, by omega, ⟨by omega, hP⟩, (Drop.mk' (Nat.le_of_ble_eq_true rfl) ⟨⟨rfl, by first | rfl | exact hsv.vlt (Nat.le_of_ble_eq_true rfl) | exact hsw.vlt (Nat.le_of_ble_eq_true rfl)⟩, ⟨rfl, by first | rfl | exact hsv.vlt (Nat.le_of_ble_eq_true rfl) | exact hsw.vlt (Nat.le_of_ble_eq_true rfl)⟩, trivial⟩ ⟨⟨_, rfl, .same hv⟩, ⟨_, rfl, .same (vlt_all rfl)⟩, trivial⟩)⟩
  have hlt := of_decide_eq_false hc
  have hx : l[i]? = some l[i] := List.getElem?_eq_getElem (by omega)
  rw [drop_at hx, List.drop_eq_nil_of_le (by omega)] at hP
  have hP : srt l = true := hP
  rw [e3, if_neg (by simp [hP])]
  conv => whnf
  exact ⟨by first | exact .inr rfl | exact .inl rfl, rfl, _, rfl, rfl⟩
end Go.Proofs.D

namespace Go.Proofs.D
open Go.As
set_option maxRecDepth 20000

theorem refCheckStar_ok (h : H) (lo hi : Int) (l : List E) (sv : V) (hl : l.length ≤ 9223372036854775807) (hs : SlC h (entVs l) l.length sv) :
    CallOk Try.prog 9 [.agg [.int .i64 lo, .int .i64 hi, sv]] h (.int .i64 (starErr lo hi l)) h := by
  obtain ⟨vo, svC, hsv, hca, hvw⟩ := hs.view 0
  refine CallOk.of_view Try.func9 rfl rfl (argsC := [.agg [.int .i64 lo, .int .i64 hi, svC]]) (Nat.le_of_ble_eq_true rfl) [vo] (.cons (CaL.agg (.cons (.bare rfl) (.cons (.bare rfl) (.cons (hca _ rfl) .nil)))) .nil) (viewOk1 entVs_bare hvw) (WpC.of_vc ?_) rfl
  have hv : ∀ {n : Nat}, ∀ k v, (ofL (entVs l) 0).get k = some v → vlt n v = true := vlt_ofL entVs_bare
  cases hsv with
  | nil h0 =>
    have e : starErr lo hi l = 6 := by unfold starErr; rw [if_pos (by omega)]
    rw [e]
    conv => whnf
    exact ⟨by first | exact .inr rfl | exact .inl rfl, rfl, _, rfl, rfl⟩
  | @sl cap ex =>
  conv => whnf
  refine ifb_mk (fun hc => ?_) (fun hc => ?_)
  · have hc := of_decide_eq_true hc
    have e : starErr lo hi l = 6 := by unfold starErr; rw [if_pos (by omega)]
    rw [e]
    conv => whnf
    exact ⟨by first | exact .inr rfl | exact .inl rfl, rfl, _, rfl, rfl⟩
  have hc := of_decide_eq_false hc
  conv => whnf
  refine ifb_mk (fun hd => ?_) (fun hd => ?_)
  · have hd := of_decide_eq_true hd
    have e : starErr lo hi l = 6 := by unfold starErr; rw [if_pos (by omega)]
    rw [e]
    conv => whnf
    exact ⟨by first | exact .inr rfl | exact .inl rfl, rfl, _, rfl, rfl⟩
  have hd := of_decide_eq_false hd
  have e1 : starErr lo hi l = if vr lo hi 500 = false then 3 else if l.all okE = false then 3 else if srt l = false then 16 else 0 := by unfold starErr; rw [if_neg (by omega)]
  conv => whnf
  refine ⟨_, _, isRange_ok _ lo hi 500 (by unfold InR; omega) (by omega), ?_⟩
  conv => whnf
  refine ifb_mk (fun he => ?_) (fun he => ?_)
  · have he := bnot_t he
    rw [e1, if_pos he]
    conv => whnf
    exact ⟨by first | exact .inr rfl | exact .inl rfl, rfl, _, rfl, rfl⟩
  have he := bnot_f he
  have e2 : starErr lo hi l = if l.all okE = false then 3 else if srt l = false then 16 else 0 := by rw [e1, if_neg (by simp [he])]
  clear e1
  conv => whnf
  refine WpC.loopS (S := fun i : Nat => ⟨tm [(1, .ptr 1 0), (3, .int .i64 i)], 73, [], hp [.cells (ofL (entVs l) 0) false none, .cells (ofL [.int .i64 lo, .int .i64 hi, .sl 0 0 l.length cap ex] 0) true none]⟩)
    (μ := fun i => l.length - i) (J := fun i => i ≤ l.length ∧ l.all okE = (l.drop i).all okE) ?_ 0 ⟨by omega, by simp⟩ (Drop.mk' (Nat.le_of_ble_eq_true rfl) ⟨⟨rfl, by first | rfl | exact hsv.vlt (Nat.le_of_ble_eq_true rfl) | exact hsw.vlt (Nat.le_of_ble_eq_true rfl)⟩, ⟨rfl, by first | rfl | exact hsv.vlt (Nat.le_of_ble_eq_true rfl) | exact hsw.vlt (Nat.le_of_ble_eq_true rfl)⟩, trivial⟩ ⟨⟨_, rfl, .same hv⟩, ⟨_, rfl, .same (vlt_all rfl)⟩, trivial⟩)
  rintro i ⟨h1, hP⟩
  refine WpC.of_vc ?_
  conv => whnf
  refine ifb_mk (fun hc => ?_) (fun hc => ?_)
  · have hlt : i < l.length := by have := of_decide_eq_true hc; omega
    have hx : l[i]? = some l[i] := List.getElem?_eq_getElem hlt
    generalize l[i] = e at hx
    rw [drop_at hx, List.all_cons] at hP
    conv => whnf
    refine ⟨by omega, by omega, ?_⟩
    conv => whnf
    refine som_mk (entGet0 hx) ?_
    conv => whnf
    refine ifb_mk (fun hd => ?_) (fun hd => ?_)
    · have hd := of_decide_eq_true hd
      have e3 : okE e = false := by unfold okE; rw [decide_eq_false (by omega), Bool.false_and]
      rw [e3, Bool.false_and] at hP
      rw [e2, if_pos hP]
      conv => whnf
      exact ⟨by first | exact .inr rfl | exact .inl rfl, rfl, _, rfl, rfl⟩
    have hd := of_decide_eq_false hd
    conv => whnf
    refine ⟨by omega, by omega, ?_⟩
    conv => whnf
    refine som_mk (entGet0 hx) ?_
    conv => whnf
    refine ifb_mk (fun hf => ?_) (fun hf => ?_)
    · have hf := of_decide_eq_true hf
      have e3 : okE e = false := by unfold okE; rw [decide_eq_false (by omega), Bool.false_and]
      rw [e3, Bool.false_and] at hP
      rw [e2, if_pos hP]
      conv => whnf
      exact ⟨by first | exact .inr rfl | exact .inl rfl, rfl, _, rfl, rfl⟩
    have hf := of_decide_eq_false hf
    have e3 : okE e = vr e.2.1 e.2.2 10000 := by unfold okE; rw [decide_eq_true (by omega), Bool.true_and]
    conv => whnf
    refine ⟨by omega, by omega, ?_⟩
    conv => whnf
    refine som_mk (entGetR hx) ?_
    conv => whnf
    refine ⟨_, _, isRange_ok _ e.2.1 e.2.2 10000 (by unfold InR; omega) (by omega), ?_⟩
    conv => whnf
    refine ifb_mk (fun hr => ?_) (fun hr => ?_)
    · have hr := bnot_t hr
      rw [e3, hr, Bool.false_and] at hP
      rw [e2, if_pos hP]
      conv => whnf
      exact ⟨by first | exact .inr rfl | exact .inl rfl, rfl, _, rfl, rfl⟩
    · have hr := bnot_f hr
      rw [e3, hr, Bool.true_and] at hP
      conv => whnf
      refine ⟨by unfold InR; omega, ?_⟩
      conv => whnf
      exact ⟨i + 1, by omega, ⟨by omega, hP⟩, (Drop.mk' (Nat.le_of_ble_eq_true rfl) ⟨⟨rfl, by first | rfl | exact hsv.vlt (Nat.le_of_ble_eq_true rfl) | exact hsw.vlt (Nat.le_of_ble_eq_true rfl)⟩, ⟨rfl, by first | rfl | exact hsv.vlt (Nat.le_of_ble_eq_true rfl) | exact hsw.vlt (Nat.le_of_ble_eq_true rfl)⟩, trivial⟩ ⟨⟨_, rfl, .same hv⟩, ⟨_, rfl, .same (vlt_all rfl)⟩, trivial⟩)⟩
  have hlt := of_decide_eq_false hc
  rw [List.drop_eq_nil_of_le (by omega), List.all_nil] at hP
  have e3 : starErr lo hi l = if srt l = false then 16 else 0 := by rw [e2, if_neg (by simp [hP])]
  clear e2
  conv => whnf
  refine WpC.loopS (S := fun j : Nat => ⟨tm [(1, .ptr 1 0), (4, .int .i64 ((j : Int) + 1))], 73, [], hp [.cells (ofL (entVs l) 0) false none, .cells (ofL [.int .i64 lo, .int .i64 hi, .sl 0 0 l.length cap ex] 0) true none]⟩)
    (μ := fun i => l.length - i) (J := fun j => j + 1 ≤ l.length ∧ srt l = srt (l.drop j)) ?_ 0 ⟨by omega, by simp⟩ (Drop.mk' (Nat.le_of_ble_eq_true rfl) ⟨⟨rfl, by first | rfl | exact hsv.vlt (Nat.le_of_ble_eq_true rfl) | exact hsw.vlt (Nat.le_of_ble_eq_true rfl)⟩, ⟨rfl, by first | rfl | exact hsv.vlt (Nat.le_of_ble_eq_true rfl) | exact hsw.vlt (Nat.le_of_ble_eq_true rfl)⟩, trivial⟩ ⟨⟨_, rfl, .same hv⟩, ⟨_, rfl, .same (vlt_all rfl)⟩, trivial⟩)
  rintro i ⟨h1, hP⟩
  refine WpC.of_vc ?_
  conv => whnf
  refine ifb_mk (fun hc => ?_) (fun hc => ?_)
  · have hlt : i + 1 < l.length := by have := of_decide_eq_true hc; omega
    have hx : l[i]? = some l[i] := List.getElem?_eq_getElem (by omega)
    have hy : l[i + 1]? = some l[i + 1] := List.getElem?_eq_getElem hlt
    generalize l[i] = e at hx
    generalize l[i + 1] = f at hy
    rw [drop_at hx, drop_at hy] at hP
    have hS : srt (e :: f :: l.drop (i + 1 + 1)) = (decide (e.1 < f.1) && srt (l.drop (i + 1))) := by rw [drop_at hy]; rfl
    rw [hS] at hP
    conv => whnf
    refine WpC.draw mixed [0, 1, 2, 3, 4, 5, 6, 7, 8, 9, 10, 11, 12, 13] [0, 1, 0, 7, 15, 31, 0, 64, 0, 256, 960, 1984, 4032, 8191] (by kernel_rfl) ?_
    conv => whnf
    refine ⟨by omega, by omega, ?_⟩
    conv => whnf
    refine som_mk (entGet0 hy) ?_
    conv => whnf
    refine ⟨by unfold InR; omega, ?_⟩
    conv => whnf
    refine ⟨by omega, by omega, ?_⟩
    conv => whnf
    refine som_mk (entGet0 hx) ?_
    conv => whnf
    refine ⟨?_, ?_⟩
    · conv => whnf
      (repeat' (first | exact True.intro | rfl | refine And.intro ?_ ?_))
    conv => whnf
    refine ifb_mk (fun hd => ?_) (fun hd => ?_)
    · have hd := of_decide_eq_true hd
      rw [decide_eq_false (by omega), Bool.false_and] at hP
      rw [e3, if_pos hP]
      conv => whnf
      exact ⟨by first | exact .inr rfl | exact .inl rfl, rfl, _, rfl, rfl⟩
    · have hd := of_decide_eq_false hd
      rw [decide_eq_true (by omega), Bool.true_and] at hP
      conv => whnf
      refine ⟨by unfold InR; omega, ?_⟩
      conv => whnf
      exact ⟨i + 1, by omega, ⟨by omega, hP⟩, (Drop.mk' (Nat.le_of_ble_eq_true rfl) ⟨⟨rfl, by first | rfl | exact hsv.vlt (Nat.le_of_ble_eq_true rfl) | exact hsw.vlt (Nat.le_of_ble_eq_true rfl)⟩, ⟨rfl, by first | rfl | exact hsv.vlt (Nat.le_of_ble_eq_true rfl) | exact hsw.vlt (Nat.le_of_ble_eq_true rfl)⟩, trivial⟩ ⟨⟨_, rfl, .same hv⟩, ⟨_, rfl, .same (vlt_all rfl)⟩, trivial⟩)⟩
  have hlt := of_decide_eq_false hc
  have hx : l[i]? = some l[i] := List.getElem?_eq_getElem (by omega)
  rw [drop_at hx, List.drop_eq_nil_of_le (by omega)] at hP
  have hP : srt l = true := hP
  rw [e3, if_neg (by simp [hP])]
  conv => whnf
  exact ⟨by first | exact .inr rfl | exact .inl rfl, rfl, _, rfl, rfl⟩

/-! ### Fractions of a motion -/

def okF (n d : Int) : Bool := decide ((-8589934592 ≤ n ∧ n ≤ 8589934592) ∧ 1 ≤ d ∧ d ≤ 40000)

theorem isFraction_ok (h : H) (n d : Int) : CallOk Try.prog 51 [.agg [.int .i64 n, .int .i64 d]] h (.bool (okF n d)) h := by
  refine CallOk.of_view Try.func51 rfl rfl (argsC := [.agg [.int .i64 n, .int .i64 d]]) (bs := []) (Nat.le_of_ble_eq_true rfl) [] (.cons (CaL.agg (.cons (.bare rfl) (.cons (.bare rfl) .nil))) .nil) (viewOk0 h) (WpC.of_vc ?_) rfl
  have no : ∀ {P : Prop} [Decidable P], ¬P → ((-8589934592 ≤ n ∧ n ≤ 8589934592) ∧ 1 ≤ d ∧ d ≤ 40000 → P) → okF n d = false := fun h1 h2 => decide_eq_false (fun h => h1 (h2 h))
  conv => whnf
  refine ifb_mk (fun h1 => ?_) (fun h1 => ?_)
  rotate_left
  · rw [no (of_decide_eq_false h1) (fun h => by omega)]
    conv => whnf
    exact ⟨by first | exact .inr rfl | exact .inl rfl, rfl, _, rfl, rfl⟩
  have h1 := of_decide_eq_true h1
  conv => whnf
  refine ifb_mk (fun h2 => ?_) (fun h2 => ?_)
  rotate_left
  · rw [no (of_decide_eq_false h2) (fun h => by omega)]
    conv => whnf
    exact ⟨by first | exact .inr rfl | exact .inl rfl, rfl, _, rfl, rfl⟩
  have h2 := of_decide_eq_true h2
  conv => whnf
  refine ifb_mk (fun h3 => ?_) (fun h3 => ?_)
  rotate_left
  · rw [no (of_decide_eq_false h3) (fun h => by omega)]
    conv => whnf
    exact ⟨by first | exact .inr rfl | exact .inl rfl, rfl, _, rfl, rfl⟩
  have h3 := of_decide_eq_true h3
  have e : okF n d = decide (d ≤ 40000) := decide_eq_decide.2 (by omega)
  rw [e]
  conv => whnf
  exact ⟨by first | exact .inr rfl | exact .inl rfl, rfl, _, rfl, rfl⟩
end Go.Proofs.D

namespace Go.Proofs.D
open Go.As
set_option maxRecDepth 20000

/-- The place's number, and its denominator. -/
def plN (a b c d y : Int) : Int := a * d + c * y * b

theorem okF_iff {n d : Int} (h : okF n d = true) : (-8589934592 ≤ n ∧ n ≤ 8589934592) ∧ 1 ≤ d ∧ d ≤ 40000 := of_decide_eq_true h

theorem bd1 {a b c d y : Int} (h1 : okF a b = true) (h2 : okF c d = true) (hy : 0 ≤ y ∧ y ≤ 200) :
    (-343597383680000 ≤ a * d ∧ a * d ≤ 343597383680000) ∧ (-1717986918400 ≤ c * y ∧ c * y ≤ 1717986918400) ∧ (-68719476736000000 ≤ c * y * b ∧ c * y * b ≤ 68719476736000000) ∧ (1 ≤ b * d ∧ b * d ≤ 1600000000) := by
  have h1 := okF_iff h1
  have h2 := okF_iff h2
  have g1 := mulBd (a := a) (b := d) (A := 8589934592) (B := 40000) h1.1 (by omega)
  have g2 := mulBd (a := c) (b := y) (A := 8589934592) (B := 200) h2.1 (by omega)
  have g3 := mulBd (a := c * y) (b := b) (A := 1717986918400) (B := 40000) (by omega) (by omega)
  have g4 := mulBd (a := b) (b := d) (A := 40000) (B := 40000) (by omega) (by omega)
  have g5 : 0 < b * d := Int.mul_pos (by omega) (by omega)
  omega

theorem plus_ok (h : H) (a b c d y : Int) (h1 : okF a b = true) (h2 : okF c d = true) (hy : 0 ≤ y ∧ y ≤ 200) :
    CallOk Try.prog 119 [.agg [.int .i64 a, .int .i64 b], .agg [.int .i64 c, .int .i64 d], .int .i64 y] h (.agg [.int .i64 ((plN a b c d y).tdiv (Int.gcd (plN a b c d y) (b * d))), .int .i64 ((b * d).tdiv (Int.gcd (plN a b c d y) (b * d)))]) h := by
  obtain ⟨g1, g2, g3, g4⟩ := bd1 h1 h2 hy
  refine CallOk.of_view Try.func119 rfl rfl (argsC := [.agg [.int .i64 a, .int .i64 b], .agg [.int .i64 c, .int .i64 d], .int .i64 y]) (bs := []) (Nat.le_of_ble_eq_true rfl) [] (.cons (CaL.agg (.cons (.bare rfl) (.cons (.bare rfl) .nil))) (.cons (CaL.agg (.cons (.bare rfl) (.cons (.bare rfl) .nil))) (.cons (.bare rfl) .nil))) (viewOk0 h) (WpC.of_vc ?_) rfl
  conv => whnf
  refine ⟨by unfold InR; omega, ?_⟩
  conv => whnf
  refine ⟨by unfold InR; omega, ?_⟩
  conv => whnf
  refine ⟨by unfold InR; omega, ?_⟩
  conv => whnf
  refine ⟨by unfold InR; omega, ?_⟩
  conv => whnf
  refine ⟨by unfold InR; omega, ?_⟩
  conv => whnf
  refine ⟨_, _, fraction_ok _ (plN a b c d y) (b * d) (by unfold plN; omega) (by omega), ?_⟩
  conv => whnf
  exact ⟨by first | exact .inr rfl | exact .inl rfl, rfl, _, rfl, rfl⟩

abbrev mv (a b c d : Int) : V := .agg [.int .i64 a, .int .i64 b, .int .i64 c, .int .i64 d]
theorem mvCa {vs : Vw} {a b c d : Int} : Ca vs (mv a b c d) (mv a b c d) := CaL.agg (.cons (.bare rfl) (.cons (.bare rfl) (.cons (.bare rfl) (.cons (.bare rfl) .nil))))

theorem placeIn_ok (h : H) (a b c d y : Int) (h1 : okF a b = true) (h2 : okF c d = true) (hy : 0 ≤ y ∧ y ≤ 200) :
    CallOk Try.prog 83 [mv a b c d, .int .i64 y] h (.agg [.int .i64 ((plN a b c d y).tdiv (Int.gcd (plN a b c d y) (b * d))), .int .i64 ((b * d).tdiv (Int.gcd (plN a b c d y) (b * d)))]) h := by
  refine CallOk.of_view Try.func83 rfl rfl (argsC := [mv a b c d, .int .i64 y]) (bs := []) (Nat.le_of_ble_eq_true rfl) [] (.cons mvCa (.cons (.bare rfl) .nil)) (viewOk0 h) (WpC.of_vc ?_) rfl
  conv => whnf
  refine ⟨_, _, plus_ok _ a b c d y h1 h2 hy, ?_⟩
  conv => whnf
  exact ⟨by first | exact .inr rfl | exact .inl rfl, rfl, _, rfl, rfl⟩

theorem cmp3_le (x y : Int) : decide (cmp3 x y ≤ 0) = decide (x ≤ y) := decide_eq_decide.2 (by unfold cmp3; split <;> (try split) <;> omega)

theorem contains_ok (h : H) (lo hi n d : Int) (h1 : -10000 ≤ lo ∧ lo ≤ 10000) (h2 : -10000 ≤ hi ∧ hi ≤ 10000) (hn : InR n) (hd : 1 ≤ d ∧ d ≤ 1600000000) :
    CallOk Try.prog 97 [.agg [.int .i64 lo, .int .i64 hi], .agg [.int .i64 n, .int .i64 d]] h (.bool (decide (lo * d ≤ n) && decide (n ≤ hi * d))) h := by
  have g1 := mulBd (a := lo) (b := d) (A := 10000) (B := 1600000000) h1 (by omega)
  have g2 := mulBd (a := hi) (b := d) (A := 10000) (B := 1600000000) h2 (by omega)
  unfold InR at hn
  refine CallOk.of_view Try.func97 rfl rfl (argsC := [.agg [.int .i64 lo, .int .i64 hi], .agg [.int .i64 n, .int .i64 d]]) (bs := []) (Nat.le_of_ble_eq_true rfl) [] (.cons (CaL.agg (.cons (.bare rfl) (.cons (.bare rfl) .nil))) (.cons (CaL.agg (.cons (.bare rfl) (.cons (.bare rfl) .nil))) .nil)) (viewOk0 h) (WpC.of_vc ?_) rfl
  conv => whnf
  refine WpC.draw mixed [0, 1, 3, 2, 4, 5, 6, 7, 8, 9, 10, 11, 12, 13, 14] [0, 1, 3, 0, 15, 31, 63, 127, 127, 383, 895, 2047, 4095, 8191, 16383] (by kernel_rfl) ?_
  conv => whnf
  refine ⟨_, _, whole_ok _ lo, ?_⟩
  conv => whnf
  refine ⟨_, _, compare_ok _ lo 1 n d (by unfold InR; omega) (by unfold InR; omega), ?_⟩
  rw [Int.mul_one]
  conv => whnf
  refine ifb_mk (fun hc => ?_) (fun hc => ?_)
  · rw [cmp3_le] at hc
    rw [hc, Bool.true_and]
    conv => whnf
    refine ⟨_, _, whole_ok _ hi, ?_⟩
    conv => whnf
    refine ⟨_, _, compare_ok _ n d hi 1 (by unfold InR; omega) (by unfold InR; omega), ?_⟩
    rw [Int.mul_one]
    conv => whnf
    refine ⟨?_, ?_⟩
    · conv => whnf
      (repeat' (first | exact True.intro | rfl | refine And.intro ?_ ?_))
    · conv => whnf
      refine ⟨by first | exact .inr rfl | exact .inl rfl, rfl, _, rfl, ?_⟩
      show some (V.bool (decide (cmp3 n (hi * d) ≤ 0))) = _
      rw [cmp3_le]
  · rw [cmp3_le] at hc
    rw [hc, Bool.false_and]
    conv => whnf
    refine ⟨?_, ?_⟩
    · conv => whnf
      (repeat' (first | exact True.intro | rfl | refine And.intro ?_ ?_))
    · conv => whnf
      exact ⟨by first | exact .inr rfl | exact .inl rfl, rfl, _, rfl, rfl⟩

/-! ### Agreeing -/

def inE (a b c d : Int) (e : E) : Bool := decide (e.2.1 * (b * d) ≤ plN a b c d e.1) && decide (plN a b c d e.1 ≤ e.2.2 * (b * d))
def agr (lo hi : Int) (l : List E) (a b c d : Int) : Bool := (decide (lo * d ≤ c) && decide (c ≤ hi * d)) && l.all (inE a b c d)

theorem div_le (x n d g : Int) (hg : 0 < g) (h1 : g ∣ n) (h2 : g ∣ d) : decide (x * d.tdiv g ≤ n.tdiv g) = decide (x * d ≤ n) ∧ decide (n.tdiv g ≤ x * d.tdiv g) = decide (n ≤ x * d) := by
  obtain ⟨p, rfl⟩ := h1
  obtain ⟨q, rfl⟩ := h2
  rw [Int.mul_tdiv_cancel_left _ (by omega), Int.mul_tdiv_cancel_left _ (by omega), show x * (g * q) = g * (x * q) from by rw [← Int.mul_assoc, Int.mul_comm x g, Int.mul_assoc]]
  exact ⟨decide_eq_decide.2 (Int.mul_le_mul_left hg).symm, decide_eq_decide.2 (Int.mul_le_mul_left hg).symm⟩

theorem okE_iff {e : E} (h : okE e = true) : (0 ≤ e.1 ∧ e.1 ≤ 200) ∧ -10000 ≤ e.2.1 ∧ e.2.1 ≤ e.2.2 ∧ e.2.2 ≤ 10000 := by
  unfold okE vr at h
  rw [Bool.and_eq_true, decide_eq_true_eq, decide_eq_true_eq] at h
  omega

theorem agrees_ok (h : H) (lo hi : Int) (l : List E) (sv : V) (a b c d : Int) (hl : l.length ≤ 9223372036854775807) (hs : SlC h (entVs l) l.length sv) (hr : vr lo hi 500 = true) (he : l.all okE = true) (h0 : 0 < l.length)
    (h1 : okF a b = true) (h2 : okF c d = true) : CallOk Try.prog 50 [.agg [.int .i64 lo, .int .i64 hi, sv], mv a b c d] h (.bool (agr lo hi l a b c d)) h := by
  obtain ⟨vo, svC, hsv, hca, hvw⟩ := hs.view 0
  refine CallOk.of_view Try.func50 rfl rfl (argsC := [.agg [.int .i64 lo, .int .i64 hi, svC], mv a b c d]) (Nat.le_of_ble_eq_true rfl) [vo] (.cons (CaL.agg (.cons (.bare rfl) (.cons (.bare rfl) (.cons (hca _ rfl) .nil)))) (.cons mvCa .nil)) (viewOk1 entVs_bare hvw) (WpC.of_vc ?_) rfl
  have hv : ∀ {n : Nat}, ∀ k v, (ofL (entVs l) 0).get k = some v → vlt n v = true := vlt_ofL entVs_bare
  have hr := of_decide_eq_true hr
  have g1 := okF_iff h1
  have g2 := okF_iff h2
  cases hsv with
  | nil h0 => omega
  | @sl cap ex =>
  conv => whnf
  refine ⟨_, _, contains_ok _ lo hi c d (by omega) (by omega) (by unfold InR; omega) (by omega), ?_⟩
  conv => whnf
  refine ifb_mk (fun hc => ?_) (fun hc => ?_)
  · have hc := bnot_t hc
    have e : agr lo hi l a b c d = false := by unfold agr; rw [hc, Bool.false_and]
    rw [e]
    conv => whnf
    exact ⟨by first | exact .inr rfl | exact .inl rfl, rfl, _, rfl, rfl⟩
  have hc := bnot_f hc
  have e : agr lo hi l a b c d = l.all (inE a b c d) := by unfold agr; rw [hc, Bool.true_and]
  conv => whnf
  refine WpC.loopS (S := fun i : Nat => ⟨tm [(3, .ptr 2 0), (14, .sl 0 0 l.length cap ex), (15, .int .i64 l.length), (16, .int .i64 i)], 29, [], hp [.cells (ofL (entVs l) 0) false none, .cells (ofL [.int .i64 lo, .int .i64 hi, .sl 0 0 l.length cap ex] 0) true none, .cells (ofL [.int .i64 a, .int .i64 b, .int .i64 c, .int .i64 d] 0) true none]⟩)
    (μ := fun i => l.length - i) (J := fun i => i ≤ l.length ∧ l.all (inE a b c d) = (l.drop i).all (inE a b c d) ∧ (l.drop i).all okE = true) ?_ 0 ⟨by omega, by simp, by simpa using he⟩ (Drop.mk' (Nat.le_of_ble_eq_true rfl) ⟨⟨rfl, by first | rfl | exact hsv.vlt (Nat.le_of_ble_eq_true rfl) | exact hsw.vlt (Nat.le_of_ble_eq_true rfl)⟩, ⟨rfl, by first | rfl | exact hsv.vlt (Nat.le_of_ble_eq_true rfl) | exact hsw.vlt (Nat.le_of_ble_eq_true rfl)⟩, ⟨rfl, by first | rfl | exact hsv.vlt (Nat.le_of_ble_eq_true rfl) | exact hsw.vlt (Nat.le_of_ble_eq_true rfl)⟩, ⟨rfl, by first | rfl | exact hsv.vlt (Nat.le_of_ble_eq_true rfl) | exact hsw.vlt (Nat.le_of_ble_eq_true rfl)⟩, trivial⟩ ⟨⟨_, rfl, .same hv⟩, ⟨_, rfl, .same (vlt_all rfl)⟩, ⟨_, rfl, .same (vlt_all rfl)⟩, trivial⟩)
  rintro i ⟨h1', hP, hO⟩
  refine WpC.of_vc ?_
  conv => whnf
  refine ifb_mk (fun hc => ?_) (fun hc => ?_)
  · have hlt : i < l.length := by have := of_decide_eq_true hc; omega
    have hx : l[i]? = some l[i] := List.getElem?_eq_getElem hlt
    generalize l[i] = f at hx
    rw [drop_at hx, List.all_cons] at hP hO
    rw [Bool.and_eq_true] at hO
    have ho := okE_iff hO.1
    obtain ⟨b1, b2, b3, b4⟩ := bd1 h1 h2 ho.1
    have hgp := gcd_pos (plN a b c d f.1) (b * d) (by omega)
    have hN : -4611686018427387904 ≤ plN a b c d f.1 ∧ plN a b c d f.1 ≤ 4611686018427387904 := by unfold plN; omega
    have t1 := tdiv_bd (plN a b c d f.1) _ hgp _ hN
    have t2 := tdiv_bd (b * d) _ hgp 1600000000 (by omega)
    have t3 : 0 < (b * d).tdiv (Int.gcd (plN a b c d f.1) (b * d)) := by
      obtain ⟨q, hq⟩ := Int.gcd_dvd_right (plN a b c d f.1) (b * d)
      have : (b * d).tdiv (Int.gcd (plN a b c d f.1) (b * d)) = q := by
        conv => lhs; lhs; rw [hq]
        exact Int.mul_tdiv_cancel_left _ (by omega)
      rw [this]
      rcases Int.lt_or_le 0 q with h | h
      · exact h
      · have := Int.mul_le_mul_of_nonneg_left h (Int.le_of_lt hgp)
        rw [← hq] at this
        omega
    have dl := div_le f.2.1 _ _ _ hgp (Int.gcd_dvd_left (plN a b c d f.1) (b * d)) (Int.gcd_dvd_right (plN a b c d f.1) (b * d))
    have dh := div_le f.2.2 _ _ _ hgp (Int.gcd_dvd_left (plN a b c d f.1) (b * d)) (Int.gcd_dvd_right (plN a b c d f.1) (b * d))
    conv => whnf
    refine ⟨by omega, by omega, ?_⟩
    conv => whnf
    refine som_mk (entGetN hx) ?_
    conv => whnf
    refine WpC.draw mixed [0, 1, 2, 3, 4, 5, 6, 7] [0, 1, 0, 0, 8, 28, 63, 127] (by kernel_rfl) ?_
    conv => whnf
    refine ⟨_, _, placeIn_ok _ a b c d f.1 h1 h2 ho.1, ?_⟩
    conv => whnf
    refine ⟨_, _, contains_ok _ f.2.1 f.2.2 _ _ (by omega) (by omega) (by unfold InR; omega) (by omega), ?_⟩
    rw [dl.1, dh.2]
    conv => whnf
    refine ⟨?_, ?_⟩
    · conv => whnf
      (repeat' (first | exact True.intro | rfl | refine And.intro ?_ ?_))
    conv => whnf
    refine ifb_mk (fun hd => ?_) (fun hd => ?_)
    · have hd : inE a b c d f = false := bnot_t hd
      rw [hd, Bool.false_and] at hP
      rw [e, hP]
      conv => whnf
      exact ⟨by first | exact .inr rfl | exact .inl rfl, rfl, _, rfl, rfl⟩
    · have hd : inE a b c d f = true := bnot_f hd
      rw [hd, Bool.true_and] at hP
      conv => whnf
      refine ⟨by unfold InR; omega, ?_⟩
      conv => whnf
      exact ⟨i + 1, by omega, ⟨by omega, hP, hO.2⟩, (Drop.mk' (Nat.le_of_ble_eq_true rfl) ⟨⟨rfl, by first | rfl | exact hsv.vlt (Nat.le_of_ble_eq_true rfl) | exact hsw.vlt (Nat.le_of_ble_eq_true rfl)⟩, ⟨rfl, by first | rfl | exact hsv.vlt (Nat.le_of_ble_eq_true rfl) | exact hsw.vlt (Nat.le_of_ble_eq_true rfl)⟩, ⟨rfl, by first | rfl | exact hsv.vlt (Nat.le_of_ble_eq_true rfl) | exact hsw.vlt (Nat.le_of_ble_eq_true rfl)⟩, ⟨rfl, by first | rfl | exact hsv.vlt (Nat.le_of_ble_eq_true rfl) | exact hsw.vlt (Nat.le_of_ble_eq_true rfl)⟩, trivial⟩ ⟨⟨_, rfl, .same hv⟩, ⟨_, rfl, .same (vlt_all rfl)⟩, ⟨_, rfl, .same (vlt_all rfl)⟩, trivial⟩)⟩
  have hlt := of_decide_eq_false hc
  rw [List.drop_eq_nil_of_le (by omega), List.all_nil] at hP
  rw [e, hP]
  conv => whnf
  exact ⟨by first | exact .inr rfl | exact .inl rfl, rfl, _, rfl, rfl⟩
end Go.Proofs.D

namespace Go.Proofs.D
open Go.As
set_option maxRecDepth 20000

theorem refAgrees_ok (h : H) (lo hi : Int) (l : List E) (sv : V) (a b c d : Int) (hl : l.length ≤ 9223372036854775807) (hs : SlC h (entVs l) l.length sv) (hr : vr lo hi 500 = true) (he : l.all okE = true) (h0 : 0 < l.length)
    (h1 : okF a b = true) (h2 : okF c d = true) : CallOk Try.prog 52 [.agg [.int .i64 lo, .int .i64 hi, sv], mv a b c d] h (.bool (agr lo hi l a b c d)) h := by
  obtain ⟨vo, svC, hsv, hca, hvw⟩ := hs.view 0
  refine CallOk.of_view Try.func52 rfl rfl (argsC := [.agg [.int .i64 lo, .int .i64 hi, svC], mv a b c d]) (Nat.le_of_ble_eq_true rfl) [vo] (.cons (CaL.agg (.cons (.bare rfl) (.cons (.bare rfl) (.cons (hca _ rfl) .nil)))) (.cons mvCa .nil)) (viewOk1 entVs_bare hvw) (WpC.of_vc ?_) rfl
  have hv : ∀ {n : Nat}, ∀ k v, (ofL (entVs l) 0).get k = some v → vlt n v = true := vlt_ofL entVs_bare
  have hr := of_decide_eq_true hr
  have g1 := okF_iff h1
  have g2 := okF_iff h2
  have p1 := mulBd (a := lo) (b := d) (A := 500) (B := 40000) (by omega) (by omega)
  have p2 := mulBd (a := hi) (b := d) (A := 500) (B := 40000) (by omega) (by omega)
  cases hsv with
  | nil h0 => omega
  | @sl cap ex =>
  conv => whnf
  refine WpC.draw mixed [0, 1, 2, 3, 4, 5, 6, 7] [0, 1, 0, 4, 0, 0, 51, 127] (by kernel_rfl) ?_
  conv => whnf
  refine ⟨?_, ?_⟩
  · conv => whnf
    (repeat' (first | exact True.intro | rfl | refine And.intro ?_ ?_))
  conv => whnf
  refine ⟨by unfold InR; omega, ?_⟩
  conv => whnf
  refine ifb_mk (fun hc => ?_) (fun hc => ?_)
  · have hc := of_decide_eq_true hc
    have e : agr lo hi l a b c d = false := by unfold agr; rw [decide_eq_false (by omega), Bool.false_and, Bool.false_and]
    rw [e]
    conv => whnf
    exact ⟨by first | exact .inr rfl | exact .inl rfl, rfl, _, rfl, rfl⟩
  have hc := of_decide_eq_false hc
  conv => whnf
  refine ⟨by unfold InR; omega, ?_⟩
  conv => whnf
  refine ifb_mk (fun hd => ?_) (fun hd => ?_)
  · have hd := of_decide_eq_true hd
    have e : agr lo hi l a b c d = false := by unfold agr; rw [decide_eq_false (show ¬ c ≤ hi * d by omega), Bool.and_false, Bool.false_and]
    rw [e]
    conv => whnf
    exact ⟨by first | exact .inr rfl | exact .inl rfl, rfl, _, rfl, rfl⟩
  have hd := of_decide_eq_false hd
  have e : agr lo hi l a b c d = l.all (inE a b c d) := by unfold agr; rw [decide_eq_true (show lo * d ≤ c by omega), decide_eq_true (show c ≤ hi * d by omega), Bool.true_and, Bool.true_and]
  conv => whnf
  refine WpC.loopS (S := fun i : Nat => ⟨tm [(2, .ptr 1 0), (3, .ptr 2 0), (5, .ptr 3 0), (6, .ptr 4 0), (7, .int .i64 i)], 84, [], hp [.cells (ofL (entVs l) 0) false none, .cells (ofL [.int .i64 lo, .int .i64 hi, .sl 0 0 l.length cap ex] 0) true none, .cells (ofL [.int .i64 a, .int .i64 b, .int .i64 c, .int .i64 d] 0) true none, .cells (ofL [.int .i64 a, .int .i64 b] 0) true none, .cells (ofL [.int .i64 c, .int .i64 d] 0) true none]⟩)
    (μ := fun i => l.length - i) (J := fun i => i ≤ l.length ∧ l.all (inE a b c d) = (l.drop i).all (inE a b c d) ∧ (l.drop i).all okE = true) ?_ 0 ⟨by omega, by simp, by simpa using he⟩ (Drop.mk' (Nat.le_of_ble_eq_true rfl) ⟨⟨rfl, by first | rfl | exact hsv.vlt (Nat.le_of_ble_eq_true rfl) | exact hsw.vlt (Nat.le_of_ble_eq_true rfl)⟩, ⟨rfl, by first | rfl | exact hsv.vlt (Nat.le_of_ble_eq_true rfl) | exact hsw.vlt (Nat.le_of_ble_eq_true rfl)⟩, ⟨rfl, by first | rfl | exact hsv.vlt (Nat.le_of_ble_eq_true rfl) | exact hsw.vlt (Nat.le_of_ble_eq_true rfl)⟩, ⟨rfl, by first | rfl | exact hsv.vlt (Nat.le_of_ble_eq_true rfl) | exact hsw.vlt (Nat.le_of_ble_eq_true rfl)⟩, ⟨rfl, by first | rfl | exact hsv.vlt (Nat.le_of_ble_eq_true rfl) | exact hsw.vlt (Nat.le_of_ble_eq_true rfl)⟩, trivial⟩ ⟨⟨_, rfl, .same hv⟩, ⟨_, rfl, .same (vlt_all rfl)⟩, ⟨_, rfl, .same (vlt_all rfl)⟩, ⟨_, rfl, .same (vlt_all rfl)⟩, ⟨_, rfl, .same (vlt_all rfl)⟩, trivial⟩)
  rintro i ⟨h1', hP, hO⟩
  refine WpC.of_vc ?_
  conv => whnf
  refine ifb_mk (fun hc => ?_) (fun hc => ?_)
  · have hlt : i < l.length := by have := of_decide_eq_true hc; omega
    have hx : l[i]? = some l[i] := List.getElem?_eq_getElem hlt
    generalize l[i] = f at hx
    rw [drop_at hx, List.all_cons] at hP hO
    rw [Bool.and_eq_true] at hO
    have ho := okE_iff hO.1
    obtain ⟨b1, b2, b3, b4⟩ := bd1 h1 h2 ho.1
    have q1 := mulBd (a := f.2.1) (b := b) (A := 10000) (B := 40000) (by omega) (by omega)
    have q2 := mulBd (a := f.2.2) (b := b) (A := 10000) (B := 40000) (by omega) (by omega)
    have q3 := mulBd (a := f.2.1 * b) (b := d) (A := 400000000) (B := 40000) (by omega) (by omega)
    have q4 := mulBd (a := f.2.2 * b) (b := d) (A := 400000000) (B := 40000) (by omega) (by omega)
    have e3 : inE a b c d f = (decide (f.2.1 * b * d ≤ a * d + c * f.1 * b) && decide (a * d + c * f.1 * b ≤ f.2.2 * b * d)) := by unfold inE plN; rw [Int.mul_assoc f.2.1, Int.mul_assoc f.2.2]
    conv => whnf
    refine ⟨by omega, by omega, ?_⟩
    conv => whnf
    refine som_mk (entGetN hx) ?_
    conv => whnf
    refine ⟨by unfold InR; omega, ?_⟩
    conv => whnf
    refine ⟨by unfold InR; omega, ?_⟩
    conv => whnf
    refine ⟨by unfold InR; omega, ?_⟩
    conv => whnf
    refine ⟨by unfold InR; omega, ?_⟩
    conv => whnf
    refine ⟨by unfold InR; omega, ?_⟩
    conv => whnf
    refine ⟨by unfold InR; omega, ?_⟩
    conv => whnf
    refine ifb_mk (fun hd => ?_) (fun hd => ?_)
    · have hd := of_decide_eq_true hd
      rw [decide_eq_false (by omega), Bool.false_and] at e3
      rw [e3, Bool.false_and] at hP
      rw [e, hP]
      conv => whnf
      exact ⟨by first | exact .inr rfl | exact .inl rfl, rfl, _, rfl, rfl⟩
    have hd := of_decide_eq_false hd
    rw [decide_eq_true (by omega), Bool.true_and] at e3
    conv => whnf
    refine ⟨by unfold InR; omega, ?_⟩
    conv => whnf
    refine ⟨by unfold InR; omega, ?_⟩
    conv => whnf
    refine ifb_mk (fun hf => ?_) (fun hf => ?_)
    · have hf := of_decide_eq_true hf
      rw [decide_eq_false (by omega)] at e3
      rw [e3, Bool.false_and] at hP
      rw [e, hP]
      conv => whnf
      exact ⟨by first | exact .inr rfl | exact .inl rfl, rfl, _, rfl, rfl⟩
    have hf := of_decide_eq_false hf
    rw [decide_eq_true (by omega)] at e3
    rw [e3, Bool.true_and] at hP
    conv => whnf
    refine ⟨by unfold InR; omega, ?_⟩
    conv => whnf
    exact ⟨i + 1, by omega, ⟨by omega, hP, hO.2⟩, (Drop.mk' (Nat.le_of_ble_eq_true rfl) ⟨⟨rfl, by first | rfl | exact hsv.vlt (Nat.le_of_ble_eq_true rfl) | exact hsw.vlt (Nat.le_of_ble_eq_true rfl)⟩, ⟨rfl, by first | rfl | exact hsv.vlt (Nat.le_of_ble_eq_true rfl) | exact hsw.vlt (Nat.le_of_ble_eq_true rfl)⟩, ⟨rfl, by first | rfl | exact hsv.vlt (Nat.le_of_ble_eq_true rfl) | exact hsw.vlt (Nat.le_of_ble_eq_true rfl)⟩, ⟨rfl, by first | rfl | exact hsv.vlt (Nat.le_of_ble_eq_true rfl) | exact hsw.vlt (Nat.le_of_ble_eq_true rfl)⟩, ⟨rfl, by first | rfl | exact hsv.vlt (Nat.le_of_ble_eq_true rfl) | exact hsw.vlt (Nat.le_of_ble_eq_true rfl)⟩, trivial⟩ ⟨⟨_, rfl, .same hv⟩, ⟨_, rfl, .same (vlt_all rfl)⟩, ⟨_, rfl, .same (vlt_all rfl)⟩, ⟨_, rfl, .same (vlt_all rfl)⟩, ⟨_, rfl, .same (vlt_all rfl)⟩, trivial⟩)⟩
  have hlt := of_decide_eq_false hc
  rw [List.drop_eq_nil_of_le (by omega), List.all_nil] at hP
  rw [e, hP]
  conv => whnf
  exact ⟨by first | exact .inr rfl | exact .inl rfl, rfl, _, rfl, rfl⟩

/-! ### CheckMotion -/

def motErr (lo hi : Int) (l : List E) (a b c d : Int) : Int :=
  if starErr lo hi l ≠ 0 then starErr lo hi l else if (okF a b && okF c d) = false then 3 else if agr lo hi l a b c d = false then 17 else 0

theorem starErr_0 {lo hi : Int} {l : List E} (h : starErr lo hi l = 0) : vr lo hi 500 = true ∧ l.all okE = true ∧ 0 < l.length := by
  unfold starErr at h
  split at h
  · cases h
  · split at h
    · cases h
    · split at h
      · cases h
      · rename_i h1 h2 h3
        exact ⟨by simpa using h2, by simpa using h3, by omega⟩

theorem starErr_R (lo hi : Int) (l : List E) : 0 ≤ starErr lo hi l ∧ starErr lo hi l ≤ 16 := by
  unfold starErr; (repeat' split) <;> omega

theorem checkMotion_ok (h : H) (lo hi : Int) (l : List E) (sv : V) (a b c d : Int) (hl : l.length ≤ 9223372036854775807) (hs : SlC h (entVs l) l.length sv) :
    CallOk Try.prog 10 [.agg [.int .i64 lo, .int .i64 hi, sv], mv a b c d] h (.int .i64 (motErr lo hi l a b c d)) h := by
  obtain ⟨vo, svC, hsv, hca, hvw⟩ := hs.view 0
  refine CallOk.of_view Try.func10 rfl rfl (argsC := [.agg [.int .i64 lo, .int .i64 hi, svC], mv a b c d]) (Nat.le_of_ble_eq_true rfl) [vo] (.cons (CaL.agg (.cons (.bare rfl) (.cons (.bare rfl) (.cons (hca _ rfl) .nil)))) (.cons mvCa .nil)) (viewOk1 entVs_bare hvw) (WpC.of_vc ?_) rfl
  have h3 : ∀ {H' : H} {w : Bool} {g : Option (Nat × Nat)}, H'.get 0 = some (.cells (ofL (entVs l) 0) w g) → SlC H' (entVs l) l.length svC := by
    intro H' w g hg
    cases hsv with
    | nil h0 => exact .nil (by have : l = [] := List.eq_nil_of_length_eq_zero h0; subst this; rfl) h0
    | sl => exact SlC.lit hg
  have key : ∀ svC', svC' = svC → vc Try.prog (match Try.f10.body with | some c => c | none => .skip) ⟨ofL [.agg [.int .i64 lo, .int .i64 hi, svC'], mv a b c d] 0, Try.f10.ntmps, [], hp [.cells (ofL (entVs l) 0) false none]⟩ (Fin Try.prog Try.f10 (.int .i64 (motErr lo hi l a b c d))) := by
    intro svC' hsC
    have main : (svC' = .nils ∨ ∃ k o n cap ex, svC' = .sl k o n cap ex) → vc Try.prog (match Try.f10.body with | some c => c | none => .skip) ⟨ofL [.agg [.int .i64 lo, .int .i64 hi, svC'], mv a b c d] 0, Try.f10.ntmps, [], hp [.cells (ofL (entVs l) 0) false none]⟩ (Fin Try.prog Try.f10 (.int .i64 (motErr lo hi l a b c d))) := by
      intro hcase
      rcases hcase with rfl | ⟨k, o, n, cap, ex, rfl⟩
      all_goals
        conv => whnf
        refine ⟨_, _, checkStar_ok _ lo hi l _ hl (by rw [hsC]; exact h3 rfl), ?_⟩
        conv => whnf
        refine ifb_mk (fun hc => ?_) (fun hc => ?_)
        · have hc := of_decide_eq_true hc
          have e : motErr lo hi l a b c d = starErr lo hi l := by unfold motErr; rw [if_pos hc]
          rw [e]
          conv => whnf
          exact ⟨by first | exact .inr rfl | exact .inl rfl, rfl, _, rfl, rfl⟩
        have hc : starErr lo hi l = 0 := by have := of_decide_eq_false hc; omega
        obtain ⟨s1, s2, s3⟩ := starErr_0 hc
        have e1 : motErr lo hi l a b c d = if (okF a b && okF c d) = false then 3 else if agr lo hi l a b c d = false then 17 else 0 := by unfold motErr; rw [if_neg (by omega)]
        conv => whnf
        refine ⟨_, _, within_ok _ (-8589934592) 8589934592 [a, c] _ (by simp) (SlC.lit rfl), ?_⟩
        conv => whnf
        refine ifb_mk (fun hd => ?_) (fun hd => ?_)
        · have hd := bnot_t hd
          have e2 : (okF a b && okF c d) = false := by
            simp only [List.all_cons, List.all_nil, Bool.and_true, Bool.and_eq_false_iff, decide_eq_false_iff_not] at hd
            unfold okF
            simp only [Bool.and_eq_false_iff, decide_eq_false_iff_not]
            omega
          rw [e1, if_pos e2]
          conv => whnf
          exact ⟨by first | exact .inr rfl | exact .inl rfl, rfl, _, rfl, rfl⟩
        have hd := bnot_f hd
        conv => whnf
        refine ⟨_, _, within_ok _ 1 40000 [b, d] _ (by simp) (SlC.lit rfl), ?_⟩
        conv => whnf
        simp only [List.all_cons, List.all_nil, Bool.and_true, Bool.and_eq_true, decide_eq_true_eq] at hd
        refine ifb_mk (fun hf => ?_) (fun hf => ?_)
        · have hf := bnot_t hf
          have e2 : (okF a b && okF c d) = false := by
            simp only [List.all_cons, List.all_nil, Bool.and_true, Bool.and_eq_false_iff, decide_eq_false_iff_not] at hf
            unfold okF
            simp only [Bool.and_eq_false_iff, decide_eq_false_iff_not]
            omega
          rw [e1, if_pos e2]
          conv => whnf
          exact ⟨by first | exact .inr rfl | exact .inl rfl, rfl, _, rfl, rfl⟩
        have hf := bnot_f hf
        simp only [List.all_cons, List.all_nil, Bool.and_true, Bool.and_eq_true, decide_eq_true_eq] at hf
        have f1 : okF a b = true := decide_eq_true (by omega)
        have f2 : okF c d = true := decide_eq_true (by omega)
        have e2 : motErr lo hi l a b c d = if agr lo hi l a b c d = false then 17 else 0 := by rw [e1, f1, f2]; rfl
        conv => whnf
        refine ⟨_, _, agrees_ok _ lo hi l _ a b c d hl (by rw [hsC]; exact h3 rfl) s1 s2 s3 f1 f2, ?_⟩
        conv => whnf
        refine ifb_mk (fun hg => ?_) (fun hg => ?_)
        · rw [e2, if_pos (bnot_t hg)]
          conv => whnf
          exact ⟨by first | exact .inr rfl | exact .inl rfl, rfl, _, rfl, rfl⟩
        · rw [e2, if_neg (by rw [bnot_f hg]; simp)]
          conv => whnf
          exact ⟨by first | exact .inr rfl | exact .inl rfl, rfl, _, rfl, rfl⟩
    apply main
    rw [hsC]
    cases hsv with
    | nil => exact .inl rfl
    | sl => exact .inr ⟨_, _, _, _, _, rfl⟩
  exact key svC rfl
end Go.Proofs.D

namespace Go.Proofs.D
open Go.As
set_option maxRecDepth 20000

theorem refCheckMotion_ok (h : H) (lo hi : Int) (l : List E) (sv : V) (a b c d : Int) (hl : l.length ≤ 9223372036854775807) (hs : SlC h (entVs l) l.length sv) :
    CallOk Try.prog 11 [.agg [.int .i64 lo, .int .i64 hi, sv], mv a b c d] h (.int .i64 (motErr lo hi l a b c d)) h := by
  obtain ⟨vo, svC, hsv, hca, hvw⟩ := hs.view 0
  refine CallOk.of_view Try.func11 rfl rfl (argsC := [.agg [.int .i64 lo, .int .i64 hi, svC], mv a b c d]) (Nat.le_of_ble_eq_true rfl) [vo] (.cons (CaL.agg (.cons (.bare rfl) (.cons (.bare rfl) (.cons (hca _ rfl) .nil)))) (.cons mvCa .nil)) (viewOk1 entVs_bare hvw) (WpC.of_vc ?_) rfl
  have h3 : ∀ {H' : H} {w : Bool} {g : Option (Nat × Nat)}, H'.get 0 = some (.cells (ofL (entVs l) 0) w g) → SlC H' (entVs l) l.length svC := by
    intro H' w g hg
    cases hsv with
    | nil h0 => exact .nil (by have : l = [] := List.eq_nil_of_length_eq_zero h0; subst this; rfl) h0
    | sl => exact SlC.lit hg
  have main : (svC = .nils ∨ ∃ k o n cap ex, svC = .sl k o n cap ex) → vc Try.prog (match Try.f11.body with | some c => c | none => .skip) ⟨ofL [.agg [.int .i64 lo, .int .i64 hi, svC], mv a b c d] 0, Try.f11.ntmps, [], hp [.cells (ofL (entVs l) 0) false none]⟩ (Fin Try.prog Try.f11 (.int .i64 (motErr lo hi l a b c d))) := by
    intro hcase
    clear hca hsv
    rcases hcase with rfl | ⟨k, o, n, cap, ex, rfl⟩
    all_goals
      conv => whnf
      refine ⟨_, _, refCheckStar_ok _ lo hi l _ hl (h3 rfl), ?_⟩
      conv => whnf
      refine ifb_mk (fun hc => ?_) (fun hc => ?_)
      · have hc := of_decide_eq_true hc
        have e : motErr lo hi l a b c d = starErr lo hi l := by unfold motErr; rw [if_pos hc]
        rw [e]
        conv => whnf
        refine ⟨_, _, refCheckStar_ok _ lo hi l _ hl (h3 rfl), ?_⟩
        conv => whnf
        exact ⟨by first | exact .inr rfl | exact .inl rfl, rfl, _, rfl, rfl⟩
      have hc : starErr lo hi l = 0 := by have := of_decide_eq_false hc; omega
      obtain ⟨s1, s2, s3⟩ := starErr_0 hc
      have e1 : motErr lo hi l a b c d = if (okF a b && okF c d) = false then 3 else if agr lo hi l a b c d = false then 17 else 0 := by unfold motErr; rw [if_neg (by omega)]
      conv => whnf
      refine ⟨_, _, isFraction_ok _ a b, ?_⟩
      conv => whnf
      refine ifb_mk (fun hd => ?_) (fun hd => ?_)
      · rw [e1, if_pos (by rw [bnot_t hd]; rfl)]
        conv => whnf
        exact ⟨by first | exact .inr rfl | exact .inl rfl, rfl, _, rfl, rfl⟩
      have hd := bnot_f hd
      conv => whnf
      refine ⟨_, _, isFraction_ok _ c d, ?_⟩
      conv => whnf
      refine ifb_mk (fun hf => ?_) (fun hf => ?_)
      · rw [e1, if_pos (by rw [bnot_t hf, Bool.and_false])]
        conv => whnf
        exact ⟨by first | exact .inr rfl | exact .inl rfl, rfl, _, rfl, rfl⟩
      have hf := bnot_f hf
      have e2 : motErr lo hi l a b c d = if agr lo hi l a b c d = false then 17 else 0 := by rw [e1, hd, hf]; rfl
      conv => whnf
      refine ⟨_, _, refAgrees_ok _ lo hi l _ a b c d hl (h3 rfl) s1 s2 s3 hd hf, ?_⟩
      conv => whnf
      refine ifb_mk (fun hg => ?_) (fun hg => ?_)
      · rw [e2, if_pos (bnot_t hg)]
        conv => whnf
        exact ⟨by first | exact .inr rfl | exact .inl rfl, rfl, _, rfl, rfl⟩
      · rw [e2, if_neg (by rw [bnot_f hg]; simp)]
        conv => whnf
        exact ⟨by first | exact .inr rfl | exact .inl rfl, rfl, _, rfl, rfl⟩
  apply main
  cases hsv with
  | nil => exact .inl rfl
  | sl => exact .inr ⟨_, _, _, _, _, rfl⟩

theorem great_ok (h : H) (lo hi : Int) (l : List E) (sv : V) (hl : l.length ≤ 9223372036854775807) (hs : SlC h (entVs l) l.length sv) :
    CallOk Try.prog 6 [.agg [.int .i64 lo, .int .i64 hi, sv]] h (.bool (decide (20 < (l.length : Int)))) h := by
  obtain ⟨vo, svC, hsv, hca, hvw⟩ := hs.view 0
  refine CallOk.of_view Try.func6 rfl rfl (argsC := [.agg [.int .i64 lo, .int .i64 hi, svC]]) (Nat.le_of_ble_eq_true rfl) [vo] (.cons (CaL.agg (.cons (.bare rfl) (.cons (.bare rfl) (.cons (hca _ rfl) .nil)))) .nil) (viewOk1 entVs_bare hvw) (WpC.of_vc ?_) rfl
  cases hsv with
  | nil h0 =>
    have e : decide (20 < (l.length : Int)) = decide ((20 : Int) < 0) := by rw [h0]; rfl
    rw [e]
    conv => whnf
    exact ⟨by first | exact .inr rfl | exact .inl rfl, rfl, _, rfl, rfl⟩
  | @sl cap ex =>
    conv => whnf
    exact ⟨by first | exact .inr rfl | exact .inl rfl, rfl, _, rfl, rfl⟩

/-- The law. -/
theorem driftStars_ok (hw : CallOk Try.prog 7 [] H.empty (.bool true) H.empty) (h : H) (lo hi : Int) (l : List E) (sv : V) (a b c d : Int) (hl : l.length ≤ 9223372036854775807) (hs : SlC h (entVs l) l.length sv) :
    CallOk Try.prog 3 [.agg [.int .i64 lo, .int .i64 hi, sv], mv a b c d] h (.bool true) h := by
  obtain ⟨vo, svC, hsv, hca, hvw⟩ := hs.view 0
  refine CallOk.of_view Try.func3 rfl rfl (argsC := [.agg [.int .i64 lo, .int .i64 hi, svC], mv a b c d]) (Nat.le_of_ble_eq_true rfl) [vo] (.cons (CaL.agg (.cons (.bare rfl) (.cons (.bare rfl) (.cons (hca _ rfl) .nil)))) (.cons mvCa .nil)) (viewOk1 entVs_bare hvw) (WpC.of_vc ?_) rfl
  have h3 : ∀ {H' : H} {w : Bool} {g : Option (Nat × Nat)}, H'.get 0 = some (.cells (ofL (entVs l) 0) w g) → SlC H' (entVs l) l.length svC := by
    intro H' w g hg
    cases hsv with
    | nil h0 => exact .nil (by have : l = [] := List.eq_nil_of_length_eq_zero h0; subst this; rfl) h0
    | sl => exact SlC.lit hg
  have main : (svC = .nils ∨ ∃ k o n cap ex, svC = .sl k o n cap ex) → vc Try.prog (match Try.f3.body with | some c => c | none => .skip) ⟨ofL [.agg [.int .i64 lo, .int .i64 hi, svC], mv a b c d] 0, Try.f3.ntmps, [], hp [.cells (ofL (entVs l) 0) false none]⟩ (Fin Try.prog Try.f3 (.bool true)) := by
    intro hcase
    clear hca hsv
    rcases hcase with rfl | ⟨k, o, n, cap, ex, rfl⟩
    all_goals
      conv => whnf
      refine ⟨_, _, great_ok _ lo hi l _ hl (h3 rfl), ?_⟩
      conv => whnf
      refine ifb_mk (fun hc => ?_) (fun hc => ?_)
      · conv => whnf
        refine ⟨_, _, hw.everywhere rfl _, ?_⟩
        conv => whnf
        exact ⟨by first | exact .inr rfl | exact .inl rfl, rfl, _, rfl, rfl⟩
      conv => whnf
      refine WpC.draw mixed [0, 2, 1, 3, 4, 5, 6, 7, 9, 10, 8, 11, 12, 13, 14, 15, 16, 17] [0, 1, 0, 7, 15, 31, 63, 63, 255, 63, 63, 2047, 4095, 8191, 16383, 32767, 65535, 131071] (by kernel_rfl) ?_
      conv => whnf
      refine ⟨_, _, checkStar_ok _ lo hi l _ hl (h3 rfl), ?_⟩
      conv => whnf
      refine ⟨_, _, refCheckStar_ok _ lo hi l _ hl (h3 rfl), ?_⟩
      conv => whnf
      refine ifb_t (decide_eq_true rfl) ?_
      conv => whnf
      refine ⟨_, _, checkMotion_ok _ lo hi l _ a b c d hl (h3 rfl), ?_⟩
      conv => whnf
      refine ⟨_, _, refCheckMotion_ok _ lo hi l _ a b c d hl (h3 rfl), ?_⟩
      conv => whnf
      refine ifb_t (decide_eq_true rfl) ?_
      conv => whnf
      refine ⟨_, _, hw.everywhere rfl _, ?_⟩
      conv => whnf
      refine ⟨?_, ?_⟩
      · conv => whnf
        (repeat' (first | exact True.intro | rfl | refine And.intro ?_ ?_))
      · conv => whnf
        exact ⟨by first | exact .inr rfl | exact .inl rfl, rfl, _, rfl, rfl⟩
  apply main
  cases hsv with
  | nil => exact .inl rfl
  | sl => exact .inr ⟨_, _, _, _, _, rfl⟩
end Go.Proofs.D

namespace Go.Proofs.D
open Go.As Go.ChangeShapes Go.WideShapes
set_option maxRecDepth 20000

theorem entVs_idx : ∀ {l : List E} {k : Nat} {v : V}, (entVs l)[k]? = some v → ∃ i e, l[i]? = some e ∧ (k = i * 3 ∧ v = .int .i64 e.1 ∨ k = i * 3 + 1 ∧ v = .int .i64 e.2.1 ∨ k = i * 3 + 2 ∧ v = .int .i64 e.2.2)
  | [], k, v, h => by simp [entVs] at h
  | x :: l, 0, v, h => by simp [entVs] at h; exact ⟨0, x, rfl, .inl ⟨rfl, h.symm⟩⟩
  | x :: l, 1, v, h => by simp [entVs] at h; exact ⟨0, x, rfl, .inr (.inl ⟨rfl, h.symm⟩)⟩
  | x :: l, 2, v, h => by simp [entVs] at h; exact ⟨0, x, rfl, .inr (.inr ⟨rfl, h.symm⟩)⟩
  | x :: l, k + 3, v, h => by
    obtain ⟨i, e, h1, h2⟩ := entVs_idx (l := l) (k := k) (v := v) (by simpa [entVs] using h)
    refine ⟨i + 1, e, by simpa using h1, ?_⟩
    rcases h2 with ⟨h2, h3⟩ | ⟨h2, h3⟩ | ⟨h2, h3⟩
    · exact .inl ⟨by omega, h3⟩
    · exact .inr (.inl ⟨by omega, h3⟩)
    · exact .inr (.inr ⟨by omega, h3⟩)

section
variable {H : Type} {enc : TypeId × Value → H} {W : World}

theorem ints_of {n t k : Nat} (hfl : flatI Try.prog n t = some k) {fuel : Nat} {cs : List Value} {x : DataW H × List MemPlace} (h : DataW.trod enc Try.prog W 0 (fun _ => true) true fuel t cs = some x) : x.2 = [] ∧ cs.length = k ∧ ∀ v ∈ cs, IsI v :=
  flatI_read n t k hfl fuel cs x.1 x.2 h

theorem star_read {v : Value} {d : DataW H} {ps : List MemPlace} {b0 : Nat} (hok : Value.okWide Try.prog W .any b0 26 v) (hd : DataW.Trod enc Try.prog W 0 (fun _ => true) true 26 v d ps) (hz : W.noneFrozen ps) :
    ∃ (lo hi : Int) (l : List E) (x : Value), v = .agg #[.int .i64 lo, .int .i64 hi, x] ∧ l.length ≤ 9223372036854775807 ∧ RdS W (entVs l) l.length x := by
  simp only [Value.okWide, Try.underlying26] at hok
  obtain ⟨cs, rfl, hsz, ts, hts, _, hcell⟩ := hok
  have hts' : Try.prog.cellTypes Try.prog.depth 26 = some [2, 2, 24] := by kernel_rfl
  rw [hts'] at hts
  cases hts
  have c26 : Try.prog.cellsOf 26 = 3 := by kernel_rfl
  have c23 : Try.prog.cellsOf 23 = 2 := by kernel_rfl
  have c24 : Try.prog.cellsOf 24 = 1 := by kernel_rfl
  have c79 : Try.prog.cellsOf 79 = 3 := by kernel_rfl
  obtain ⟨fuel, hf⟩ := hd
  have hf' : DataW.trod enc Try.prog W 0 (fun _ => true) true fuel 26 cs.toList = some (d, ps) := hf
  obtain ⟨y0, y1, n, hx, hlen, h0, h1⟩ := trod_struct2 Try.underlying26 hf'
  rw [c26] at hsz
  obtain ⟨csl⟩ := cs
  dsimp only at h0 h1 hlen hf'
  match csl, hsz with
  | [a, b, x], _ =>
  rw [c23] at h0
  rw [c24] at h1
  have h0' : DataW.trod enc Try.prog W 0 (fun _ => true) true n 23 [a, b] = some y0 := h0
  have h1' : DataW.trod enc Try.prog W 0 (fun _ => true) true n 24 [x] = some y1 := h1
  obtain ⟨_, _, hI⟩ := ints_of (n := 5) (t := 23) (k := 2) (by kernel_rfl) h0'
  obtain ⟨lo, rfl, _⟩ := hI a (by simp)
  obtain ⟨hi, rfl, _⟩ := hI b (by simp)
  obtain ⟨u, hu, hcx⟩ := hcell 2 x rfl
  cases hu
  cases hx
  have hz1 : W.noneFrozen y1.2 := fun b off hp => hz b off (List.mem_append_right _ hp)
  rcases slice_read (n := 5) (k := 3) Try.underlying24 (by kernel_rfl) c79 h1' hz1 hcx with rfl | ⟨ad, len, cap, f, c, et, flo, fhi, rfl, hlc, hlm, hb, hcs⟩
  · exact ⟨lo, hi, [], _, rfl, by simp, .inl ⟨rfl, rfl, rfl⟩⟩
  · have hln : ((List.range len).map fun i => ((f (i * 3), f (i * 3 + 1), f (i * 3 + 2)) : E)).length = len := by simp
    refine ⟨lo, hi, (List.range len).map fun i => (f (i * 3), f (i * 3 + 1), f (i * 3 + 2)), _, rfl, by rw [hln]; exact hlm, ?_⟩
    refine .inr ⟨ad.block, ad.off, cap, c, et, flo, fhi, by rw [hln], hb, fun k v hv => ?_⟩
    obtain ⟨i, e, hi', hk⟩ := entVs_idx hv
    rw [List.getElem?_map] at hi'
    cases hr : (List.range len)[i]? with
    | none => rw [hr] at hi'; cases hi'
    | some j =>
      rw [hr] at hi'
      cases hi'
      obtain ⟨hlt, hj⟩ := List.getElem?_eq_some_iff.1 hr
      rw [List.getElem_range] at hj
      subst hj
      rw [List.length_range] at hlt
      have hkl : k < len * 3 := by rcases hk with ⟨rfl, _⟩ | ⟨rfl, _⟩ | ⟨rfl, _⟩ <;> omega
      obtain ⟨g1, _, g3⟩ := hcs k hkl
      have hv' : v = .int .i64 (f k) := by rcases hk with ⟨rfl, rfl⟩ | ⟨rfl, rfl⟩ | ⟨rfl, rfl⟩ <;> rfl
      subst hv'
      exact ⟨rfl, ⟨_, g1, fun m => .int _ _⟩, g3⟩

theorem motion_read {v : Value} {d : DataW H} {ps : List MemPlace} {b0 : Nat} (hok : Value.okWide Try.prog W .any b0 30 v) (hd : DataW.Trod enc Try.prog W 0 (fun _ => true) true 30 v d ps) :
    ∃ (a b c e : Int), v = .agg #[.int .i64 a, .int .i64 b, .int .i64 c, .int .i64 e] := by
  simp only [Value.okWide, Try.underlying30] at hok
  obtain ⟨cs, rfl, _⟩ := hok
  obtain ⟨fuel, hf⟩ := hd
  have hf' : DataW.trod enc Try.prog W 0 (fun _ => true) true fuel 30 cs.toList = some (d, ps) := hf
  obtain ⟨_, hl, hI⟩ := ints_of (n := 5) (t := 30) (k := 4) (by kernel_rfl) hf'
  obtain ⟨csl⟩ := cs
  dsimp only at hl hI
  match csl, hl with
  | [a, b, c, e], _ =>
  obtain ⟨a, rfl, _⟩ := hI a (by simp)
  obtain ⟨b, rfl, _⟩ := hI b (by simp)
  obtain ⟨c, rfl, _⟩ := hI c (by simp)
  obtain ⟨e, rfl, _⟩ := hI e (by simp)
  exact ⟨a, b, c, e, rfl⟩
end

theorem walk (W : World) (lo hi : Int) (l : List E) (x : Value) (a b c e : Int) (hl : l.length ≤ 9223372036854775807) (hx : RdS W (entVs l) l.length x) :
    Calls Try.prog 3 #[.agg #[.int .i64 lo, .int .i64 hi, x], .agg #[.int .i64 a, .int .i64 b, .int .i64 c, .int .i64 e]] W fun r w' => r = .returned (.bool true) ∧ Fr W w' := by
  obtain ⟨mo, hpl, hk⟩ := hx.mk
  obtain ⟨sv, h1, h2⟩ := hk 0
  have hr := hr_views (W := W) (mos := [mo]) (Ls := [entVs l]) rfl (fun i L m' hL hm => by
    cases i with
    | zero => simp at hL hm; subst hL; subst hm; exact hpl
    | succ i => simp at hL)
  have hc := driftStars_ok DW.wwhole (hp (flatBlks [entVs l])) lo hi l sv a b c e hl (h1 _ (by rw [hp_get]; rfl))
  have hv : VRs (fun i => ([mo][i]?).join) [.agg [.int .i64 lo, .int .i64 hi, sv], mv a b c e] [.agg #[.int .i64 lo, .int .i64 hi, x], .agg #[.int .i64 a, .int .i64 b, .int .i64 c, .int .i64 e]] :=
    .cons (VRs.agg (.cons (.int _ _) (.cons (.int _ _) (.cons (h2 _ rfl) (.nil _))))) (.cons (VRs.agg (.cons (.int _ _) (.cons (.int _ _) (.cons (.int _ _) (.cons (.int _ _) (.nil _)))))) (.nil _))
  refine Calls.mono (callsIn_wide.1 (hc.walk hr hv)) ?_
  rintro r w' ⟨m', y, rfl, hy, hf⟩
  cases hy
  exact ⟨rfl, hf⟩
end Go.Proofs.D
