/- What the functions answer that the laws call, one after another (Km). -/
import Derived.Test.YtgopneibaajgbaaAs6
import Derived.Test.YtgopneibaajgbaaL5
import Derived.Test.YtgopneibaajgbaaTh
import Derived.Test.YtgopneibaajgbaaR2
import Derived.Test.YtgopneibaajgbaaWk

set_option linter.unusedVariables false
namespace Go.Proofs.H
open Go.As
set_option maxRecDepth 20000
set_option linter.unusedVariables false
set_option linter.unusedSimpArgs false

/-! ### MendMore -/

section
variable {W H n : Nat} {d f : Nat → Int}
theorem flat_own (p : Pv W H n f) (h : As.H) (b n' : Nat) (hn : n' = n) (c : Tr V) (gg : Option (Nat × Nat)) (hb : h.get b = some (.cells c true gg)) (hc : ∀ j, j < n → c.get j = some (.int .i64 (f j))) :
    CallOk Try.prog 43 [.agg [.int .i64 W, .int .i64 H, .sl b 0 n' n' false]] h (.tup [plV W H false n (xF W H f), .rsl false 1 n (iG (uF W H f)), .bool true]) (h.put b .dead) := by
  subst hn
  have t : ThL h (fun x => x = b) [plV W H false n' f] [.agg [.int .i64 W, .int .i64 H, .sl b 0 n' n' false]] := by
    refine .cons (ThL.agg (.cons (.same rfl) (.cons (.same rfl) (.cons (.sl rfl hb (fun h => by cases h) (Nat.le_refl _) (fun j hj => rfl) fun j hj k v hk => ?_) .nil)))) .nil
    match k with
    | 0 =>
      have hv : V.int .i64 (f j) = v := by simpa [iG] using hk
      subst hv
      exact ⟨by rw [show 0 + j * 1 + 0 = j from by omega]; exact hc j hj, rfl⟩
    | k + 1 => simp [iG] at hk
  refine CallOk.thawF (flatV p As.H.empty) rfl h b hb t (fun m xs hv => ?_)
  obtain ⟨x, a', rfl, h1, _⟩ := hv.uncons
  cases h1 with
  | agg l hcs =>
    rename_i arr
    have hlt : 2 < arr.size := by rw [← l]; exact Nat.lt_succ_self 2
    have h2 := hcs 2 _ _ rfl (Array.getElem?_eq_getElem hlt)
    generalize arr[2] = y at h2
    cases h2 with
    | sl hm _ => exact fun hc => by rw [hm] at hc; cases hc
    | sl0 hm => exact fun hc => by rw [hm] at hc; cases hc
end
end Go.Proofs.H

