/- What the functions answer that the laws call, one after another (Uni). -/
import Derived.Test.YtgcnflpgolnjeaaAs6
import Derived.Test.YtgcnflpgolnjeaaB7
import Derived.Test.YtgcnflpgolnjeaaPth
import Derived.Test.YtgcnflpgolnjeaaLst
set_option linter.unusedVariables false
set_option linter.unusedSimpArgs false
namespace Go.Proofs.K
open Go.As
set_option maxRecDepth 20000
def evF (c : Nat → Int) : Nat → Int → Int
  | 0, _ => 0
  | n + 1, x => c 0 + x * evF (fun k => c (k + 1)) n x
def Po (n : Nat) (f : Int → Int) : Prop := ∃ c, ∀ x, f x = evF c n x
theorem evF_add : ∀ n c d x, evF (fun k => c k + d k) n x = evF c n x + evF d n x
  | 0, _, _, _ => rfl
  | n + 1, c, d, x => by
    have ih := evF_add n (fun k => c (k + 1)) (fun k => d (k + 1)) x
    show c 0 + d 0 + x * evF (fun k => c (k + 1) + d (k + 1)) n x = (c 0 + x * _) + (d 0 + x * _)
    rw [ih, Int.mul_add]; omega
theorem evF_mul (m : Int) : ∀ n c x, evF (fun k => m * c k) n x = m * evF c n x
  | 0, _, _ => (Int.mul_zero m).symm
  | n + 1, c, x => by
    have ih := evF_mul m n (fun k => c (k + 1)) x
    show m * c 0 + x * evF (fun k => m * c (k + 1)) n x = m * (c 0 + x * _)
    rw [ih, Int.mul_add, Int.mul_left_comm]
theorem evF_low : ∀ n c x, evF (fun k => if k < n then c k else 0) (n + 1) x = evF c n x
  | 0, c, x => by show 0 + x * 0 = (0 : Int); omega
  | n + 1, c, x => by
    have ih := evF_low n (fun k => c (k + 1)) x
    have e : (fun k => if k + 1 < n + 1 then c (k + 1) else 0) = fun k => if k < n then c (k + 1) else 0 := funext fun k => by
      by_cases h : k < n
      · rw [if_pos h, if_pos (by omega)]
      · rw [if_neg h, if_neg (by omega)]
    show (if 0 < n + 1 then c 0 else 0) + x * evF (fun k => if k + 1 < n + 1 then c (k + 1) else 0) (n + 1) x = c 0 + x * _
    rw [e, ih, if_pos (by omega)]
theorem Po.add {n : Nat} {f g : Int → Int} (hf : Po n f) (hg : Po n g) : Po n fun x => f x + g x := by
  obtain ⟨c, hc⟩ := hf
  obtain ⟨d, hd⟩ := hg
  exact ⟨_, fun x => by rw [evF_add n c d, ← hc, ← hd]⟩
theorem Po.mul {n : Nat} {f : Int → Int} (m : Int) (hf : Po n f) : Po n fun x => m * f x := by
  obtain ⟨c, hc⟩ := hf
  exact ⟨_, fun x => by rw [evF_mul m n c, ← hc]⟩
theorem Po.up {n : Nat} {f : Int → Int} (hf : Po n f) : Po (n + 1) f := by
  obtain ⟨c, hc⟩ := hf
  exact ⟨_, fun x => by rw [evF_low n c, hc]⟩
theorem Po.le {n m : Nat} {f : Int → Int} (h : n ≤ m) (hf : Po n f) : Po m f := by
  induction m with
  | zero => have : n = 0 := by omega
            subst this; exact hf
  | succ m ih =>
    by_cases e : n = m + 1
    · subst e; exact hf
    · exact (ih (by omega)).up
theorem Po.var {n : Nat} {f : Int → Int} (hf : Po n f) : Po (n + 1) fun x => x * f x := by
  obtain ⟨c, hc⟩ := hf
  refine ⟨fun k => match k with | 0 => 0 | k + 1 => c k, fun x => ?_⟩
  show x * f x = 0 + x * evF c n x
  rw [hc]; omega
theorem Po.sub {n : Nat} {f : Int → Int} (r : Int) (hf : Po n f) : Po (n + 1) fun x => f x * (x - r) := by
  obtain ⟨c, hc⟩ := hf.var.add (hf.up.mul (-r))
  refine ⟨c, fun x => ?_⟩
  rw [← hc]
  show f x * (x - r) = x * f x + -r * f x
  rw [Int.mul_sub, Int.neg_mul, Int.mul_comm x, Int.mul_comm r]; omega
theorem Po.const (m : Int) : Po 1 fun _ => m := ⟨fun _ => m, fun x => by show m = m + x * 0; omega⟩
theorem Po.zero (n : Nat) : Po n fun _ => 0 := by
  refine ⟨fun _ => 0, fun x => ?_⟩
  induction n with
  | zero => rfl
  | succ n ih =>
    show (0 : Int) = 0 + x * evF (fun _ => 0) n x
    have ih : (0 : Int) = evF (fun _ => 0) n x := ih
    rw [← ih, Int.mul_zero]; rfl
theorem evF_div : ∀ n (c : Nat → Int) (r : Int), ∃ q : Nat → Int, ∀ x, evF c (n + 1) x = evF c (n + 1) r + (x - r) * evF q n x
  | 0, c, r => ⟨fun _ => 0, fun x => by show c 0 + x * 0 = c 0 + r * 0 + (x - r) * 0; omega⟩
  | n + 1, c, r => by
    obtain ⟨q, hq⟩ := evF_div n (fun k => c (k + 1)) r
    refine ⟨fun k => match k with | 0 => evF (fun k => c (k + 1)) (n + 1) r | k + 1 => q k, fun x => ?_⟩
    show c 0 + x * evF (fun k => c (k + 1)) (n + 1) x = c 0 + r * evF (fun k => c (k + 1)) (n + 1) r + (x - r) * (evF (fun k => c (k + 1)) (n + 1) r + x * evF q n x)
    rw [hq x]
    generalize evF (fun k => c (k + 1)) (n + 1) r = E
    generalize evF q n x = Q
    grind
theorem Po.none : ∀ {n : Nat} {f : Int → Int}, Po n f → ∀ z : Nat → Int, (∀ i j, i < n → j < i → z j ≠ z i) → (∀ i, i < n → f (z i) = 0) → ∀ x, f x = 0
  | 0, f, hf, z, _, _, x => by obtain ⟨c, hc⟩ := hf; exact hc x
  | n + 1, f, hf, z, hd, hz, x => by
    obtain ⟨c, hc⟩ := hf
    obtain ⟨q, hq⟩ := evF_div n c (z n)
    have h0 : evF c (n + 1) (z n) = 0 := by rw [← hc]; exact hz n (by omega)
    have ih := Po.none (n := n) (f := evF q n) ⟨q, fun _ => rfl⟩ z (fun i j hi hj => hd i j (by omega) hj) (fun i hi => by
      have h1 := hz i (by omega)
      rw [hc, hq, h0, Int.zero_add] at h1
      rcases Int.mul_eq_zero.1 h1 with h | h
      · exact absurd (show z i = z n by omega) (hd n i (by omega) hi)
      · exact h) x
    rw [hc, hq, h0, ih, Int.mul_zero]; rfl
def cfP : Nat → Int
  | 0 => 6
  | 1 => 6
  | 2 => 3
  | _ => 1
def nwP : Nat → Int → Int
  | 0, _ => 1
  | k + 1, x => nwP k x * (x - k)
def pzP (p : Nat → Int) : Nat → Int → Int
  | 0, _ => 0
  | n + 1, x => pzP p n x + cfP n * p n * nwP n x
theorem nw_all : ((List.range 100).all fun d => (List.range 4).all fun k => decide (6 * (wy d k : Int) = cfP k * nwP k d)) = true := by decide +kernel
theorem nw_at {d k : Nat} (hd : d < 100) (hk : k < 4) : 6 * (wy d k : Int) = cfP k * nwP k d :=
  of_decide_eq_true (List.all_eq_true.1 (List.all_eq_true.1 nw_all d (List.mem_range.2 hd)) k (List.mem_range.2 hk))
theorem nw_po : ∀ k, Po (k + 1) (nwP k)
  | 0 => Po.const 1
  | k + 1 => (nw_po k).sub k
theorem pz_po (p : Nat → Int) : ∀ n, Po n (pzP p n)
  | 0 => Po.zero 0
  | n + 1 => ((pz_po p n).up).add ((nw_po n).mul _)
theorem pz_at {p : Nat → Int} {d : Nat} (hd : d < 100) : ∀ n, n ≤ 4 → 6 * plc p d n = pzP p n d
  | 0, _ => rfl
  | n + 1, h => by
    have ih := pz_at (p := p) hd n (by omega)
    have h1 := nw_at (d := d) (k := n) hd (by omega)
    show 6 * (plc p d n + p n * wy d n) = pzP p n d + cfP n * p n * nwP n d
    rw [← ih, Int.mul_add, Int.mul_left_comm 6, h1, Int.mul_assoc, Int.mul_left_comm (p n)]
section
variable {n : Nat} {x y : Nat → Int}
theorem tm_po (x : Nat → Int) (i : Nat) : ∀ j, Po (if i < j then j else j + 1) fun d => tmP x d i j
  | 0 => by rw [if_neg (Nat.not_lt_zero _)]; exact Po.const 1
  | j + 1 => by
    have ih := tm_po x i j
    by_cases e : j = i
    · subst e
      rw [if_neg (Nat.lt_irrefl _)] at ih
      rw [if_pos (Nat.lt_succ_self _)]
      have : (fun d => tmP x d j (j + 1)) = fun d => tmP x d j j := funext fun d => by
        show tmP x d j j * (if j = j then 1 else d - x j) = _
        rw [if_pos rfl, Int.mul_one]
      rw [this]; exact ih
    · have h2 : (fun d => tmP x d i (j + 1)) = fun d => tmP x d i j * (d - x j) := funext fun d => by
        show tmP x d i j * (if j = i then 1 else d - x j) = _
        rw [if_neg e]
      rw [h2]
      by_cases h : i < j
      · rw [if_pos h] at ih
        rw [if_pos (by omega)]
        exact ih.sub _
      · rw [if_neg h] at ih
        rw [if_neg (by omega)]
        exact ih.sub _
theorem nu_po (n : Nat) (x y : Nat → Int) : ∀ i, i ≤ n → Po n fun d => nuP n x y d i
  | 0, _ => Po.zero n
  | i + 1, h => by
    have ih := nu_po n x y i (by omega)
    have h1 := tm_po x i n
    rw [if_pos (by omega)] at h1
    have h2 := h1.mul (y i * trP (gq x i n) n)
    have e : (fun d => nuP n x y d (i + 1)) = fun d => nuP n x y d i + (y i * trP (gq x i n) n) * tmP x d i n := funext fun d => by
      show nuP n x y d i + y i * tmP x d i n * trP (gq x i n) n = _
      rw [Int.mul_right_comm]
    rw [e]
    exact ih.add h2
theorem tm_zero {m i : Nat} (hm : m ≠ i) : ∀ j, m < j → tmP x (x m) i j = 0
  | 0, h => absurd h (Nat.not_lt_zero _)
  | j + 1, h => by
    show tmP x (x m) i j * (if j = i then 1 else x m - x j) = 0
    by_cases e : m = j
    · subst e
      rw [if_neg hm, Int.sub_self, Int.mul_zero]
    · rw [tm_zero hm j (by omega), Int.zero_mul]
theorem tm_self {i : Nat} (hi : i < n) : ∀ j, j ≤ n → tmP x (x i) i j * trP (gq x i j) n = trP (df x) n
  | 0, _ => by
    show 1 * _ = _
    rw [gq_zero, Int.one_mul]
  | j + 1, h => by
    have ih := tm_self hi j (by omega)
    show tmP x (x i) i j * (if j = i then 1 else x i - x j) * _ = _
    by_cases e : j = i
    · subst e
      rw [if_pos rfl, Int.mul_one, ← gq_skip]; exact ih
    · rw [if_neg e, ← ih, gq_step x hi (by omega) e, Int.mul_assoc, Int.mul_comm (x i - x j)]
theorem nu_node {m : Nat} (hm : m < n) : ∀ i, i ≤ n → nuP n x y (x m) i = if m < i then y m * trP (df x) n else 0
  | 0, _ => by rw [if_neg (Nat.not_lt_zero _)]; rfl
  | i + 1, h => by
    have ih := nu_node hm i (by omega)
    show nuP n x y (x m) i + y i * tmP x (x m) i n * trP (gq x i n) n = _
    by_cases e : m = i
    · subst e
      rw [ih, if_neg (Nat.lt_irrefl _), if_pos (Nat.lt_succ_self _), Int.mul_assoc, tm_self hm n (Nat.le_refl _), Int.zero_add]
    · rw [tm_zero e n hm, Int.mul_zero, Int.zero_mul, Int.add_zero, ih]
      by_cases h1 : m < i
      · rw [if_pos h1, if_pos (by omega)]
      · rw [if_neg h1, if_neg (by omega)]
theorem nu_node' {m : Nat} (hm : m < n) : nuP n x y (x m) n = y m * trP (df x) n := by rw [nu_node hm n (Nat.le_refl _), if_pos hm]
theorem cs_plc (q : Nat → Int) : ∀ n, n ≤ 4 → ∀ d, d < n → plc (csP n q) d n = q d
  | 0, _, d, h => absurd h (Nat.not_lt_zero _)
  | 1, _, d, h => by
    match d, h with
    | 0, _ => show 0 + q 0 * 1 = q 0; omega
  | 2, _, d, h => by
    match d, h with
    | 0, _ => show 0 + q 0 * 1 + (q 1 - q 0) * 0 = q 0; omega
    | 1, _ => show 0 + q 0 * 1 + (q 1 - q 0) * 1 = q 1; omega
  | 3, _, d, h => by
    match d, h with
    | 0, _ => show 0 + q 0 * 1 + (q 1 - q 0) * 0 + (q 2 - q 1 - (q 1 - q 0)) * 0 = q 0; omega
    | 1, _ => show 0 + q 0 * 1 + (q 1 - q 0) * 1 + (q 2 - q 1 - (q 1 - q 0)) * 0 = q 1; omega
    | 2, _ => show 0 + q 0 * 1 + (q 1 - q 0) * 2 + (q 2 - q 1 - (q 1 - q 0)) * 1 = q 2; omega
  | 4, _, d, h => by
    match d, h with
    | 0, _ => show 0 + q 0 * 1 + (q 1 - q 0) * 0 + (q 2 - q 1 - (q 1 - q 0)) * 0 + (q 3 - q 2 - (q 2 - q 1) - (q 2 - q 1 - (q 1 - q 0))) * 0 = q 0; omega
    | 1, _ => show 0 + q 0 * 1 + (q 1 - q 0) * 1 + (q 2 - q 1 - (q 1 - q 0)) * 0 + (q 3 - q 2 - (q 2 - q 1) - (q 2 - q 1 - (q 1 - q 0))) * 0 = q 1; omega
    | 2, _ => show 0 + q 0 * 1 + (q 1 - q 0) * 2 + (q 2 - q 1 - (q 1 - q 0)) * 1 + (q 3 - q 2 - (q 2 - q 1) - (q 2 - q 1 - (q 1 - q 0))) * 0 = q 2; omega
    | 3, _ => show 0 + q 0 * 1 + (q 1 - q 0) * 3 + (q 2 - q 1 - (q 1 - q 0)) * 3 + (q 3 - q 2 - (q 2 - q 1) - (q 2 - q 1 - (q 1 - q 0))) * 1 = q 3; omega
  | n + 5, h, _, _ => by omega
theorem plc_cs (p q : Nat → Int) : ∀ n, n ≤ 4 → (∀ d, d < n → q d = plc p d n) → ∀ k, k < n → csP n q k = p k
  | 0, _, _, k, h => absurd h (Nat.not_lt_zero _)
  | 1, _, hq, k, h => by
    have h0 : q 0 = 0 + p 0 * 1 := hq 0 (by omega)
    match k, h with
    | 0, _ => show q 0 = p 0; omega
  | 2, _, hq, k, h => by
    have h0 : q 0 = 0 + p 0 * 1 + p 1 * 0 := hq 0 (by omega)
    have h1 : q 1 = 0 + p 0 * 1 + p 1 * 1 := hq 1 (by omega)
    match k, h with
    | 0, _ => show q 0 = p 0; omega
    | 1, _ => show q 1 - q 0 = p 1; omega
  | 3, _, hq, k, h => by
    have h0 : q 0 = 0 + p 0 * 1 + p 1 * 0 + p 2 * 0 := hq 0 (by omega)
    have h1 : q 1 = 0 + p 0 * 1 + p 1 * 1 + p 2 * 0 := hq 1 (by omega)
    have h2 : q 2 = 0 + p 0 * 1 + p 1 * 2 + p 2 * 1 := hq 2 (by omega)
    match k, h with
    | 0, _ => show q 0 = p 0; omega
    | 1, _ => show q 1 - q 0 = p 1; omega
    | 2, _ => show q 2 - q 1 - (q 1 - q 0) = p 2; omega
  | 4, _, hq, k, h => by
    have h0 : q 0 = 0 + p 0 * 1 + p 1 * 0 + p 2 * 0 + p 3 * 0 := hq 0 (by omega)
    have h1 : q 1 = 0 + p 0 * 1 + p 1 * 1 + p 2 * 0 + p 3 * 0 := hq 1 (by omega)
    have h2 : q 2 = 0 + p 0 * 1 + p 1 * 2 + p 2 * 1 + p 3 * 0 := hq 2 (by omega)
    have h3 : q 3 = 0 + p 0 * 1 + p 1 * 3 + p 2 * 3 + p 3 * 1 := hq 3 (by omega)
    match k, h with
    | 0, _ => show q 0 = p 0; omega
    | 1, _ => show q 1 - q 0 = p 1; omega
    | 2, _ => show q 2 - q 1 - (q 1 - q 0) = p 2; omega
    | 3, _ => show q 3 - q 2 - (q 2 - q 1) - (q 2 - q 1 - (q 1 - q 0)) = p 3; omega
  | n + 5, h, _, _, _ => by omega
theorem th_on (h : Dy n x) (hw : alW n x y = true) {m : Nat} (hm : m < n) : plc (thP n x y) (x m).toNat n = y m := by
  have h4 := h.le
  have hD := den_pos h
  have e0 : thP n x y = csP n (qP n x y) := by unfold thP; rw [hw]
  rw [e0]
  have hq : ∀ d : Nat, d < n → trP (df x) n * qP n x y d = nuP n x y d n := fun d hd => by
    have h1 : whP n x y d = true := allF_iff.1 hw d hd
    have h2 : (nuP n x y d n).tmod (trP (df x) n) = 0 := of_decide_eq_true h1
    have h3 := Int.mul_tdiv_add_tmod (nuP n x y d n) (trP (df x) n)
    rw [h2, Int.add_zero] at h3
    exact h3
  have hz := (((nu_po n x y n (Nat.le_refl _)).mul 6).add ((pz_po (csP n (qP n x y)) n).mul (-(trP (df x) n)))).none (fun i => (i : Int)) (fun i j hi hj => by omega) (fun i hi => by
    show 6 * nuP n x y (i : Int) n + -(trP (df x) n) * pzP _ n (i : Int) = 0
    rw [← pz_at (by omega) n h4, cs_plc _ n h4 i hi, ← hq i hi, Int.neg_mul, Int.mul_left_comm]
    omega) (x m)
  have hz' : 6 * nuP n x y (x m) n + -(trP (df x) n) * pzP (csP n (qP n x y)) n (x m) = 0 := hz
  have hr := h.rg m hm
  have e1 : x m = ((x m).toNat : Int) := by omega
  rw [nu_node' hm] at hz'
  have e2 : pzP (csP n (qP n x y)) n (x m) = 6 * plc (csP n (qP n x y)) (x m).toNat n := by rw [pz_at (by omega) n h4, ← e1]
  rw [e2] at hz'
  generalize plc (csP n (qP n x y)) (x m).toNat n = P at *
  generalize trP (df x) n = D at *
  have h5 : 6 * D * (y m - P) = 0 := by grind
  rcases Int.mul_eq_zero.1 h5 with h6 | h6 <;> omega
theorem th_of (h : Dy n x) (p : Nat → Int) (hp : ∀ m, m < n → plc p (x m).toNat n = y m) : alW n x y = true ∧ ∀ k, k < n → thP n x y k = p k := by
  have h4 := h.le
  have hD := den_pos h
  have hz := (((nu_po n x y n (Nat.le_refl _)).mul 6).add ((pz_po p n).mul (-(trP (df x) n)))).none x (fun i j hi hj => by have := h.up i j hi hj; omega) (fun i hi => by
    have hr := h.rg i hi
    show 6 * nuP n x y (x i) n + -(trP (df x) n) * pzP p n (x i) = 0
    have e1 : x i = ((x i).toNat : Int) := by omega
    have e2 : pzP p n (x i) = 6 * plc p (x i).toNat n := by rw [pz_at (by omega) n h4, ← e1]
    rw [nu_node' hi, e2, hp i hi]
    grind)
  have hq : ∀ d : Nat, d < 100 → nuP n x y d n = trP (df x) n * plc p d n := fun d hd => by
    have h1 : 6 * nuP n x y (d : Int) n + -(trP (df x) n) * pzP p n (d : Int) = 0 := hz d
    rw [← pz_at hd n h4] at h1
    generalize plc p d n = P at *
    generalize trP (df x) n = D at *
    generalize nuP n x y (d : Int) n = N at *
    grind
  have hw : alW n x y = true := allF_t fun d hd => by
    unfold whP
    rw [hq d (by omega), Int.mul_tmod_right]
    rfl
  refine ⟨hw, fun k hk => ?_⟩
  have e0 : thP n x y = csP n (qP n x y) := by unfold thP; rw [hw]
  rw [e0]
  refine plc_cs p _ n h4 (fun d hd => ?_) k hk
  unfold qP
  rw [hq d (by omega), Int.mul_tdiv_cancel_left _ (by omega)]
end
end Go.Proofs.K
namespace Go.Proofs.K
open Go.As
set_option maxRecDepth 20000
section
variable {p q : Nat → Bool}
theorem cnF_sub : ∀ n, (∀ i, i < n → p i = true → q i = true) → cnF p n ≤ cnF q n
  | 0, _ => Nat.le_refl _
  | n + 1, h => by
    have ih := cnF_sub n fun i hi => h i (by omega)
    have h1 := h n (by omega)
    show cnF p n + (if p n = true then 1 else 0) ≤ cnF q n + (if q n = true then 1 else 0)
    by_cases e : p n = true
    · rw [if_pos e, if_pos (h1 e)]; omega
    · rw [if_neg e]; omega
theorem slF_at {n i : Nat} (hi : i < n) (hp : p i = true) : cnF p i < cnF p n ∧ ∀ a, slF p a n (cnF p i) = a i := by
  have h1 := (slF_yes (a := fun _ => 0) hp).1
  have h2 := cnF_mono (p := p) (show i + 1 ≤ n by omega)
  have h3 : cnF p i < cnF p n := by omega
  obtain ⟨m, g1, g2, g3, g4⟩ := slF_mem n _ h3
  have h4 := (slF_yes (a := fun _ => 0) g2).1
  rcases Nat.lt_trichotomy m i with h | h | h
  · have := cnF_mono (p := p) (show m + 1 ≤ i by omega); omega
  · subst h; exact ⟨h3, g3⟩
  · have := cnF_mono (p := p) (show i + 1 ≤ m by omega); omega
def fsF (p : Nat → Bool) (m : Nat) (i : Nat) : Bool := p i && decide (cnF p i < m)
theorem fs_cn (m : Nat) : ∀ n, cnF (fsF p m) n = min (cnF p n) m
  | 0 => by show 0 = min 0 m; omega
  | n + 1 => by
    have ih := fs_cn m n
    show cnF (fsF p m) n + (if fsF p m n = true then 1 else 0) = min (cnF p n + (if p n = true then 1 else 0)) m
    rw [ih]
    unfold fsF
    by_cases e : p n = true
    · rw [e, if_pos rfl, Bool.true_and]
      by_cases h : cnF p n < m
      · rw [decide_eq_true h, if_pos rfl]; omega
      · rw [decide_eq_false h, if_neg Bool.false_ne_true]; omega
    · rw [Bool.not_eq_true] at e
      rw [e, Bool.false_and, if_neg Bool.false_ne_true]; omega
def bnF : (Nat → Bool) → Nat → Nat
  | _, 0 => 0
  | p, n + 1 => 2 * bnF (fun i => p (i + 1)) n + (p 0).toNat
theorem bn_lt : ∀ (n : Nat) (p : Nat → Bool), bnF p n < 2 ^ n
  | 0, _ => Nat.one_pos
  | n + 1, p => by
    have ih := bn_lt n fun i => p (i + 1)
    have h1 : (p 0).toNat ≤ 1 := by cases p 0 <;> decide
    show 2 * bnF (fun i => p (i + 1)) n + (p 0).toNat < 2 ^ (n + 1)
    rw [Nat.pow_succ]; omega
theorem bn_bit : ∀ (n : Nat) (p : Nat → Bool) (i : Nat), i < n → (bnF p n).testBit i = p i
  | 0, _, i, h => absurd h (Nat.not_lt_zero _)
  | n + 1, p, i, h => by
    have h1 : (p 0).toNat ≤ 1 := by cases p 0 <;> decide
    match i, h with
    | 0, _ =>
      show Nat.testBit (2 * bnF (fun i => p (i + 1)) n + (p 0).toNat) 0 = p 0
      rw [Nat.testBit_zero]
      cases p 0 with
      | true => exact decide_eq_true (by show (2 * _ + 1) % 2 = 1; omega)
      | false => exact decide_eq_false (by show ¬ (2 * _ + 0) % 2 = 1; omega)
    | i + 1, h =>
      show Nat.testBit (2 * bnF (fun i => p (i + 1)) n + (p 0).toNat) (i + 1) = p (i + 1)
      rw [Nat.testBit_succ, show (2 * bnF (fun i => p (i + 1)) n + (p 0).toNat) / 2 = bnF (fun i => p (i + 1)) n from by omega]
      exact bn_bit n (fun i => p (i + 1)) i (by omega)
end
theorem plc_z {p : Nat → Int} {m d : Nat} (hm : m ≤ 4) (hz : ∀ k, m ≤ k → k < 4 → p k = 0) : plc p d 4 = plc p d m := by
  rw [← plc_cut (m := m) (a := p) 4 hm]
  refine plc_congr 4 fun k hk => ?_
  unfold cut
  by_cases h : k < m
  · rw [if_pos h]
  · rw [if_neg h, hz k (by omega) hk]
theorem th_z {n : Nat} {x y : Nat → Int} {k : Nat} (h : n ≤ k) : thP n x y k = 0 := by
  unfold thP
  cases alW n x y with
  | true => show cut n _ k = 0; unfold cut; rw [if_neg (by omega)]
  | false => rfl
theorem c4_f4 {p : Nat → Int} {c : C4} (h : ∀ k, k < 4 → p k = f4 c k) : c4 p = c := by
  unfold c4
  rw [h 0 (by omega), h 1 (by omega), h 2 (by omega), h 3 (by omega)]
  rfl
section
variable {D n : Nat} {a b : Nat → Int}
theorem psF_at {p : Nat → Int} {i : Nat} : psF p a b i = true ↔ plc p (a i).toNat 4 = b i := by
  unfold psF
  exact decide_eq_true_iff
theorem th_ps (l : Lg n a b) {s : Nat → Bool} (h4 : cnF s n ≤ 4) (hw : alW (cnF s n) (slF s a n) (slF s b n) = true) {i : Nat} (hi : i < n) (hs : s i = true) : psF (thP (cnF s n) (slF s a n) (slF s b n)) a b i = true := by
  obtain ⟨h1, h2⟩ := slF_at hi hs
  have h3 := th_on (slF_dy h4 l.rg l.up) hw h1
  rw [h2, h2] at h3
  rw [psF_at, plc_z h4 fun k hk _ => th_z hk]
  exact h3
theorem ps_th (l : Lg n a b) {s : Nat → Bool} (h4 : cnF s n ≤ 4) {p : Nat → Int} (hz : ∀ k, cnF s n ≤ k → k < 4 → p k = 0) (hp : ∀ i, i < n → s i = true → psF p a b i = true) : alW (cnF s n) (slF s a n) (slF s b n) = true ∧ ∀ k, k < 4 → thP (cnF s n) (slF s a n) (slF s b n) k = p k := by
  obtain ⟨h1, h2⟩ := th_of (slF_dy h4 l.rg l.up) (y := slF s b n) p fun m hm => by
    obtain ⟨i, g1, g2, g3, g4⟩ := slF_mem n m hm
    rw [g3, g3, ← plc_z h4 hz]
    exact psF_at.1 (hp i g1 g2)
  refine ⟨h1, fun k hk => ?_⟩
  by_cases e : k < cnF s n
  · exact h2 k e
  · rw [hz k (by omega) hk, th_z (by omega)]
theorem ps_one (hD : D ≤ 3) (l : Lg n a b) {p q : Nat → Int} (hp : ∀ k, D < k → k < 4 → p k = 0) (hq : ∀ k, D < k → k < 4 → q k = 0) (h : D + 1 ≤ cnF (fun i => psF p a b i && psF q a b i) n) : ∀ k, k < 4 → p k = q k := by
  have hc := fs_cn (p := fun i => psF p a b i && psF q a b i) (D + 1) n
  rw [Nat.min_eq_right h] at hc
  have hs : ∀ i, fsF (fun i => psF p a b i && psF q a b i) (D + 1) i = true → psF p a b i = true ∧ psF q a b i = true := fun i hi => by
    unfold fsF at hi
    rw [Bool.and_eq_true, Bool.and_eq_true] at hi
    exact hi.1
  generalize fsF (fun i => psF p a b i && psF q a b i) (D + 1) = s at *
  have h1 := ps_th l (s := s) (by omega) (p := p) (fun k hk => hp k (by omega)) fun i _ hi => (hs i hi).1
  have h2 := ps_th l (s := s) (by omega) (p := q) (fun k hk => hq k (by omega)) fun i _ hi => (hs i hi).2
  intro k hk
  rw [← h1.2 k hk, h2.2 k hk]
theorem mpS_iff (hD : D ≤ 3) (l : Lg n a b) {c : C4} : c ∈ mpS D n a b (2 ^ n) ↔ (∀ k, D < k → k < 4 → f4 c k = 0) ∧ D + 1 ≤ cnC n a b c := by
  constructor
  · intro h
    obtain ⟨g, _, hg, hw, rfl⟩ := mpS_mem _ h
    refine ⟨fun k h1 h2 => ?_, ?_⟩
    · rw [f4_at h2]
      exact th_z (by omega)
    · rw [cnC_eq, ← hg]
      exact cnF_sub n fun i hi hb => th_ps l (by omega) hw hi hb
  · rintro ⟨hz, hc⟩
    have hcn := fs_cn (p := psF (f4 c) a b) (D + 1) n
    have hc' : D + 1 ≤ cnF (psF (f4 c) a b) n := hc
    rw [Nat.min_eq_right hc'] at hcn
    have hb := bn_bit n (fsF (psF (f4 c) a b) (D + 1))
    have hl := bn_lt n (fsF (psF (f4 c) a b) (D + 1))
    generalize bnF (fsF (psF (f4 c) a b) (D + 1)) n = g at *
    have hg : cnF g.testBit n = D + 1 := by rw [cnF_congr n hb, hcn]
    obtain ⟨h1, h2⟩ := ps_th l (s := g.testBit) (by omega) (p := f4 c) (fun k hk => hz k (by omega)) fun i hi hs => by
      rw [hb i hi] at hs
      unfold fsF at hs
      rw [Bool.and_eq_true] at hs
      exact hs.1
    have h3 := mpS_all (D := D) (a := a) (b := b) _ g hl hg h1
    rwa [show c4 (crG n a b g) = c from c4_f4 h2] at h3
end
end Go.Proofs.K
namespace Go.Proofs.K
open Go.As
set_option maxRecDepth 20000
section
variable {cn : C4 → Nat}
theorem prQ_mem {q : List C4} {c : C4} (h : c ∈ q) : ∃ e ∈ prQ q, e.1 = c := by
  have h1 : c ∈ (prQ q).map (·.1) := by rw [prQ_keys]; exact List.mem_reverse.2 h
  obtain ⟨e, he, h2⟩ := List.mem_map.1 h1
  exact ⟨e, he, h2⟩
theorem mx_ge {q : List C4} {c : C4} (h : c ∈ q) : cn c ≤ mxC cn (prQ q) := by
  obtain ⟨e, he, rfl⟩ := prQ_mem h
  exact mxC_ge he
theorem prQ_ne {q : List C4} (h : q ≠ []) : prQ q ≠ [] := fun h2 => by
  have := prQ_len q
  rw [h2] at this
  exact h (List.length_eq_zero_iff.1 this.symm)
theorem mx_at {q : List C4} (h : q ≠ []) : ∃ c ∈ q, cn c = mxC cn (prQ q) := by
  obtain ⟨e, he, h2⟩ := mxC_at (cn := cn) (prQ_ne h)
  exact ⟨e.1, prQ_sub he, h2⟩
end
section
variable {D n : Nat} {a b : Nat → Int}
theorem psF_congr {p q : Nat → Int} (h : ∀ k, k < 4 → p k = q k) : psF p a b = psF q a b := funext fun i => by
  unfold psF
  rw [plc_congr 4 h]
end
end Go.Proofs.K
namespace Go.Proofs.K
open Go.As
set_option maxRecDepth 20000
end Go.Proofs.K
