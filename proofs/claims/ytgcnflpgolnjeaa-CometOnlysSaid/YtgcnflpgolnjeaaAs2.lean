/- The machine that the proof runs on, part 2 of 6: texts of my own, put together by program. No statement is proved here. -/
import Derived.Test.YtgcnflpgolnjeaaAs1
import Derived.Maps.RangeRun
import Derived.Laws.NewFold
import Derived.RangeFuncLeaves
import Derived.LoopNIn
import Derived.RangeFuncRecord
set_option linter.unusedVariables false
set_option linter.unusedSimpArgs false
/- Operations that make a block. -/
namespace Go.As
theorem rep_zero (z : List V) : rep 0 z = [] := rfl
theorem rep_succ (n : Nat) (z : List V) : rep (n + 1) z = z ++ rep n z := by simp [rep, List.replicate_succ]
theorem rep_length (n : Nat) (z : List V) : (rep n z).length = n * z.length := by
  induction n with
  | zero => simp [rep_zero]
  | succ n ih => rw [rep_succ, List.length_append, ih, Nat.succ_mul]; omega
theorem rep_get (n : Nat) (z : List V) : ∀ k, k < n * z.length → (rep n z)[k]? = z[k % z.length]? := by
  induction n with
  | zero => intro k h; simp at h
  | succ n ih =>
    intro k h
    rw [Nat.succ_mul] at h
    rw [rep_succ]
    by_cases hk : k < z.length
    · rw [List.getElem?_append_left hk, Nat.mod_eq_of_lt hk]
    · rw [List.getElem?_append_right (by omega), ih (k - z.length) (by omega)]
      congr 1
      exact (Nat.mod_eq_sub_mod (by omega)).symm
theorem rep_all (n : Nat) {z : List V} (h : z.all one = true) : (rep n z).all one = true := by
  induction n with
  | zero => rfl
  | succ n ih => rw [rep_succ, List.all_append, h, ih]; rfl
theorem range0_map (f g : Nat → Value) : (Array.range 0).map f = (Array.range 0).map g := by apply Array.ext <;> simp
theorem zeros_VRs {m : M} {z : List V} {x : Array Value} (hz : VRs m z x.toList) (n k : Nat) (hk : k = n * x.size) : VRs m (rep n z) ((Array.range k).map (fun i => x[i % x.size]!)).toList := by
  subst hk
  have hl : z.length = x.size := by simpa using hz.1
  refine ⟨by rw [rep_length, hl]; simp, fun k v y hv hy => ?_⟩
  have hk : k < n * x.size := by
    have := (List.getElem?_eq_some_iff.1 hv).1; rw [rep_length, hl] at this; exact this
  rw [rep_get n z k (by rw [hl]; exact hk), hl] at hv
  have hpos : 0 < x.size := by
    rcases Nat.eq_zero_or_pos x.size with h | h
    · rw [h] at hk; simp at hk
    · exact h
  have hlt : k % x.size < x.size := Nat.mod_lt _ hpos
  have hy' : ((Array.range (n * x.size)).map (fun i => x[i % x.size]!))[k]? = some y := by rw [← Array.getElem?_toList]; exact hy
  rw [Array.getElem?_map, Array.getElem?_range, if_pos hk] at hy'
  simp only [Option.map_some, Option.some.injEq] at hy'
  refine hz.2 (k % x.size) v y hv ?_
  rw [← hy', getElem!_pos x (k % x.size) hlt]
  simp
section
variable {base : Nat} {P : Program} {m : M} {h : H} {w : World} {t : Tr V} {nt : Nat} {a : Act} {o : Oper}
def Makes (P : Program) (a : Act) (o : Oper) (m : M) (w : World) (n : Nat) (b : Blk) (v : V) : Prop :=
  ∃ obj x, (execOp a.eval o).run P w = .ok (.value x) (w.alloc obj) ∧ BR (m.set n (w.heap.size, 0, 0)) (0, 0) (some obj) b ∧ VR (m.set n (w.heap.size, 0, 0)) v x ∧ b.live = true
theorem run_newRow (e : TypeId) (c : Array Value) (w : World) : (newRow e c).run P w = .ok ⟨w.heap.size, 0, none⟩ (w.alloc (.cells c e)) := by
  unfold newRow
  simp only [Sem.run_bind, run_newObj, Result.andThen_ok, Sem.run_pure]
  rfl
theorem alloc_sound {ty : TypeId} (ho : o.op = .alloc ty) {n : Nat} (hn : m n = none) {f : Tr V → Option (Blk × (Nat → V))} (hc : mAlloc P ty = .m f) {b : Blk} {g : Nat → V} (hf : f t = some (b, g)) : Makes P a o m w n b (g n) := by
  unfold mAlloc at hc
  cases hz : zero? P ty with
  | none => rw [hz] at hc; cases hc
  | some z =>
    rw [hz] at hc; cases hc; cases hf
    obtain ⟨x, hx1, hx2⟩ := run_zero hz
    obtain ⟨_, hzc, hzo⟩ := ofVal_VR hx1 m
    refine ⟨.cells x.cells ty, .pointer (some ⟨w.heap.size, 0, none⟩), ?_, ?_, ?_, rfl⟩
    · simp only [execOp, ho]
      refine val_run ?_
      unfold Instr.alloc newVar
      simp only [Sem.run_bind, hx2, Result.andThen_ok, run_newRow, Sem.run_pure]
    · have := BR.row (hzc.mono (Ext.set (w.heap.size, 0, 0) hn)) hzo ty true
      simpa using this
    · have := VR.ptr (m := m.set n (w.heap.size, 0, 0)) (o := 0) (M.set_same m n (w.heap.size, 0, 0))
      exact this
theorem box_sound {ty : TypeId} {x : Operand} (ht : TR m t nt a.tmps) (ho : o.op = .box ty x) {n : Nat} (hn : m n = none) {f : Tr V → Option (Blk × (Nat → V))} (hc : mBox (opX x) = .m f) {b : Blk} {g : Nat → V} (hf : f t = some (b, g)) : Makes P a o m w n b (g n) := by
  unfold mBox at hc; cases hc
  dsimp only at hf
  cases hx : opX x t with
  | none => rw [hx] at hf; cases hf
  | some u =>
    rw [hx] at hf; dsimp only at hf
    split at hf
    · rename_i hone
      cases hf
      have hu := (opX_VR ht hx).cells hone
      refine ⟨.cells (a.eval x).cells ty, .pointer (some ⟨w.heap.size, 0, none⟩), ?_, ?_, ?_, rfl⟩
      · simp only [execOp, ho]
        refine val_run ?_
        unfold Instr.box newVar
        simp only [Sem.run_bind, run_newRow, Result.andThen_ok, Sem.run_pure]
      · have := BR.row (hu.mono (Ext.set (w.heap.size, 0, 0) hn)) hone ty true
        simpa using this
      · exact VR.ptr (m := m.set n (w.heap.size, 0, 0)) (o := 0) (M.set_same m n (w.heap.size, 0, 0))
    · cases hf
theorem buildSlice_sound {ty : TypeId} {len : Nat} {ps : Array (Nat × Operand)} (ht : TR m t nt a.tmps) (ho : o.op = .buildSlice ty len ps) {n : Nat} (hn : m n = none) {f : Tr V → Option (Blk × (Nat → V))} (hc : mBuildSlice P ty len ps.toList = .m f)
    {b : Blk} {g : Nat → V} (hf : f t = some (b, g)) : Makes P a o m w n b (g n) := by
  unfold mBuildSlice at hc
  split at hc
  · rename_i el hd
    split at hc
    · rename_i sz z hs hz
      split at hc
      · rename_i hcond
        obtain ⟨hbig, hzl⟩ := hcond
        cases hc
        dsimp only at hf
        cases hv : evp ps.toList t with
        | none => rw [hv] at hf; cases hf
        | some vs =>
          rw [hv] at hf; dsimp only at hf
          cases hfl : fill? (fun i => some (i * sz, sz)) (rep len z.cells) vs with
          | none => rw [hfl] at hf; cases hf
          | some cs =>
            rw [hfl] at hf; dsimp only at hf
            split at hf
            · rename_i hone
              cases hf
              obtain ⟨x, hx1, hx2⟩ := run_zero hz
              obtain ⟨_, hzc, hzo⟩ := ofVal_VR hx1 m
              have hxs : x.cells.size = sz := by have := hzc.1; simp at this; omega
              obtain ⟨h1, h2⟩ := evp_VRs ht hv
              have hps : (ps.map fun (i, x) => (i, a.eval x)) = (ps.toList.map fun p => (p.1, a.eval p.2)).toArray := by
                apply Array.ext'; simp
              have hrun : ∃ cs' : Array Value, VRs m cs cs'.toList ∧ (Instr.buildSlice ty len (ps.map fun (i, x) => (i, a.eval x))).run P w = .ok (.slice (some ⟨w.heap.size, 0, none⟩) len len) (w.alloc (.cells cs' el)) := by
                unfold Instr.buildSlice
                simp only [Sem.run_bind, run_und hd, Result.andThen_ok, run_size hs]
                rw [if_neg (by omega)]
                by_cases h0 : len * sz = 0
                · obtain ⟨cs', hfill, hr, _⟩ := fill_VRs (pl := fun i => some (i * sz, sz)) (xs := ps.toList.map fun p => (p.1, a.eval p.2)) (by rw [List.map_map]; exact h1) (by rw [List.map_map]; exact h2)
                    (zeros_VRs hzc len (len * sz) (by rw [hxs])) (rep_all len hzo) hfl
                  refine ⟨cs', hr, ?_⟩
                  rw [if_pos h0]
                  simp only [Sem.run_bind, Sem.run_pure, Result.andThen_ok, hps]
                  have he : (Array.range (len * sz)).map (fun i => (#[] : Array Value)[i % (#[] : Array Value).size]!) = (Array.range (len * sz)).map (fun i => x.cells[i % x.cells.size]!) := by rw [h0]; exact range0_map _ _
                  rw [he, hfill]
                  simp only [Sem.run_bind, run_newRow, Result.andThen_ok, Sem.run_pure]
                · obtain ⟨cs', hfill, hr, _⟩ := fill_VRs (pl := fun i => some (i * sz, sz)) (xs := ps.toList.map fun p => (p.1, a.eval p.2)) (by rw [List.map_map]; exact h1) (by rw [List.map_map]; exact h2)
                    (zeros_VRs hzc len (len * sz) (by rw [hxs])) (rep_all len hzo) hfl
                  refine ⟨cs', hr, ?_⟩
                  rw [if_neg h0]
                  simp only [Sem.run_bind, Sem.run_pure, Result.andThen_ok, hps, hx2]
                  rw [hfill]
                  simp only [Sem.run_bind, run_newRow, Result.andThen_ok, Sem.run_pure]
              obtain ⟨cs', hr, hrun⟩ := hrun
              refine ⟨.cells cs' el, .slice (some ⟨w.heap.size, 0, none⟩) len len, ?_, ?_, ?_, rfl⟩
              · simp only [execOp, ho]; exact val_run hrun
              · have := BR.row (hr.mono (Ext.set (w.heap.size, 0, 0) hn)) hone el true
                simpa using this
              · exact VR.sl (m := m.set n (w.heap.size, 0, 0)) (o := 0) (M.set_same m n (w.heap.size, 0, 0)) rfl
            · cases hf
      · cases hc
    · cases hc
  · cases hc
theorem map_sound {ty : TypeId} (ho : o.op = .makeMap ty none) {n : Nat} {f : Tr V → Option (Blk × (Nat → V))} (hc : mMap = .m f) {b : Blk} {g : Nat → V} (hf : f t = some (b, g)) : Makes P a o m w n b (g n) := by
  unfold mMap at hc; cases hc; cases hf
  refine ⟨.map #[] 0, .map (some w.heap.size), ?_, ⟨rfl, #[], rfl, rfl, fun k e x he => by simp at he⟩, .map (M.set_same _ _ _), rfl⟩
  simp only [execOp, ho, Option.map_none]
  refine val_run ?_
  unfold Instr.makeMap
  simp only [Sem.run_bind, Sem.run_pure, Result.andThen_ok, run_newObj]
  rfl
theorem makeSlice_sound {ty : TypeId} {l c : Operand} (ht : TR m t nt a.tmps) (ho : o.op = .makeSlice ty l c) {n : Nat} (hn : m n = none) {f : Tr V → Option (Blk × (Nat → V))} (hc : mSlice P ty (opX l) (opX c) = .m f)
    {b : Blk} {g : Nat → V} (hf : f t = some (b, g)) : Makes P a o m w n b (g n) := by
  unfold mSlice at hc
  split at hc
  · rename_i el hd
    split at hc
    · rename_i i z hi hz
      split at hc
      · rename_i hcond
        obtain ⟨hby, hzl, hzo⟩ := hcond
        cases hc
        dsimp only at hf
        split at hf
        · rename_i kl ln kc cn hl hcv
          split at hf
          · rename_i hle
            obtain ⟨hlc, hcb⟩ := hle
            cases hf
            have hu := opX_VR ht hl
            have hu' := opX_VR ht hcv
            cases hlv : a.eval l <;> rw [hlv] at hu <;> cases hu
            cases hcv' : a.eval c <;> rw [hcv'] at hu' <;> cases hu'
            obtain ⟨x, hx1, hx2⟩ := run_zero hz
            obtain ⟨_, hzc, _⟩ := ofVal_VR hx1 m
            have hxs : x.cells.size = i.size := by have := hzc.1; simp at this; omega
            have hs : sizeOf? P el = some i.size := by unfold sizeOf?; rw [hi]
            have hwr : ∀ k : Nat, k ≤ 2 ^ 20 → IntKind.i64.wrap (Int.ofNat k) = Int.ofNat k := fun k hk => wrap_in (by
              show Nat.ble k 9223372036854775807 = true
              exact Nat.ble_eq_true_of_le (by omega))
            refine ⟨.cells ((Array.range (cn * i.size)).map (fun j => x.cells[j % x.cells.size]!)) el, .slice (some ⟨w.heap.size, 0, none⟩) ln cn, ?_, ?_, ?_, rfl⟩
            · simp only [execOp, ho]
              refine val_run ?_
              unfold Instr.makeSlice
              have hti : (typeInfo el).run P w = .ok i w := by unfold typeInfo; simp only [Sem.run_bind, run_program, Result.andThen_ok, hi, Sem.run_pure]
              simp only [Sem.run_bind, run_und hd, Result.andThen_ok, hlv, hcv', asInt, asIntOf, Sem.run_pure, hti, hwr ln (by omega), hwr cn hcb]
              have hmul : i.bytes * cn ≤ 2 ^ 20 * 2 ^ 20 := Nat.mul_le_mul hby hcb
              have hmul' : i.bytes * ln ≤ 2 ^ 20 * 2 ^ 20 := Nat.mul_le_mul hby (by omega)
              have e1 : (decide (Int.ofNat cn < 0) || decide ((i.bytes : Int) * Int.ofNat cn > 2 ^ 48)) = false := by
                rw [Bool.or_eq_false_iff]
                refine ⟨decide_eq_false (by simp), decide_eq_false ?_⟩
                have : ((i.bytes * cn : Nat) : Int) ≤ 2 ^ 40 := by exact_mod_cast hmul
                have h2 : (i.bytes : Int) * Int.ofNat cn = ((i.bytes * cn : Nat) : Int) := by push_cast; rfl
                rw [h2]; omega
              have e2 : (decide (Int.ofNat ln < 0)) = false := decide_eq_false (by simp)
              have e3 : (decide (Int.ofNat ln > Int.ofNat cn)) = false := decide_eq_false (by simp; omega)
              rw [e1, e2, e3]
              simp only [Bool.or_false, Bool.false_eq_true, if_false, Sem.run_bind, Result.andThen_ok, run_askRoom, run_size hs]
              have hcn : (Int.ofNat cn).toNat = cn := rfl
              have hln : (Int.ofNat ln).toNat = ln := rfl
              rw [hcn, hln]
              by_cases h0 : cn * i.size = 0
              · rw [if_pos h0]
                simp only [Sem.run_bind, Sem.run_pure, Result.andThen_ok, run_newRow]
                rw [h0, range0_map (fun x => (#[] : Array Value)[x % (#[] : Array Value).size]!) (fun j => x.cells[j % x.cells.size]!)]
              · rw [if_neg h0]
                simp only [Sem.run_bind, Sem.run_pure, Result.andThen_ok, hx2, run_newRow]
            · have := BR.row ((zeros_VRs hzc cn (cn * i.size) (by rw [hxs])).mono (Ext.set (w.heap.size, 0, 0) hn)) (rep_all cn hzo) el true
              rwa [Array.toArray_toList] at this
            · exact VR.sl (m := m.set n (w.heap.size, 0, 0)) (o := 0) (M.set_same m n (w.heap.size, 0, 0)) rfl
          · cases hf
        · cases hf
      · cases hc
    · cases hc
  · cases hc
end
end Go.As
/- Operations that write. -/
namespace Go.As
theorem growBy_le (newLen : Nat) : ∀ (rounds c : Nat), c ≤ 2 * newLen + 768 → Builtin.growBy newLen rounds c ≤ 2 * newLen + 768 := by
  intro rounds
  induction rounds with
  | zero => intro c h; exact h
  | succ r ih =>
    intro c h
    simp only [Builtin.growBy]
    split
    · exact h
    · exact ih _ (by omega)
theorem nextslicecap_le (newLen c : Nat) (h : c < newLen) : Builtin.nextslicecap newLen c ≤ 2 * newLen + 768 := by
  unfold Builtin.nextslicecap
  split
  · omega
  · split
    · omega
    · exact growBy_le _ _ _ (by omega)
section
variable {base : Nat} {P : Program} {m : M} {h : H} {w : World} {t : Tr V} {nt : Nat} {a : Act} {o : Oper}
def Does (P : Program) (base : Nat) (a : Act) (o : Oper) (m : M) (h : H) (w : World) (v : V) (h' : H) : Prop :=
  ∃ nx x m' w', (execOp a.eval o).run P w = .ok nx w' ∧ (nx = .value x ∨ (nx = .skip ∧ x = undef)) ∧ SR base m h w m' h' w' ∧ VR m' v x
theorem VR.undef (m : M) : VR m (.tup []) undef := VRs.tup (a := #[]) (VRs.nil m)
theorem store_sound {ty : TypeId} {p x : Operand} (hr : HR base m h w) (ht : TR m t nt a.tmps) (ho : o.op = .store ty p x) {f : H → Tr V → Option (V × H)} (hc : wStore P ty (opX p) (opX x) = .w f) {v : V} {h' : H} (hf : f h t = some (v, h')) :
    Does P base a o m h w v h' := by
  unfold wStore at hc
  cases hs : sizeOf? P ty with
  | none => rw [hs] at hc; cases hc
  | some n =>
    rw [hs] at hc; cases hc
    dsimp only at hf
    split at hf
    · rename_i b q u hp hx
      split at hf
      · rename_i c g hb
        split at hf
        · rename_i hcond
          obtain ⟨hlen, hone⟩ := hcond
          cases hput : putN u.cells c q with
          | none => rw [hput] at hf; cases hf
          | some c' =>
            rw [hput] at hf; cases hf
            have hu := opX_VR ht hp
            have hxv := (opX_VR ht hx).cells hone
            cases hpv : a.eval p <;> rw [hpv] at hu <;> cases hu
            rename_i r s hm
            obtain ⟨hrun, hsr⟩ := hr.store (P := P) hb hm hput hxv hone
            refine ⟨.skip, undef, m, _, ?_, .inr ⟨rfl, rfl⟩, hsr, VR.undef m⟩
            simp only [execOp, ho]
            unfold Instr.storeAt Instr.sureAddr storeVar
            have hsz : ¬ (a.eval x).cells.size ≠ n := by
              have := hxv.1; simp at this; omega
            simp only [Sem.run_bind, hpv, Sem.run_pure, Result.andThen_ok, run_size hs]
            rw [if_neg hsz]
            simp only [Result.andThen_ok, hrun]
        · cases hf
      · cases hf
    · cases hf
theorem run_setObj {r : Nat} {o' ob : Obj} (hb : w.heap[r]? = some ob) (hno : ∀ c e f, ob ≠ .cells c e f) : (setObj r o').run P w = .ok () { w with heap := w.heap.setIfInBounds r o' } := by
  unfold setObj
  cases ob with
  | cells c e f => exact absurd rfl (hno c e f)
  | _ => simp only [Sem.run, hb]
theorem SR.setObj (hr : HR base m h w) {b : Nat} {bo bn : Blk} {r : Nat} {s : Nat × Nat} {o' : Obj} (hb : h.get b = some bo) (hw : bo.wr = true) (hm : m b = some (r, s)) (hn : BR m s (some o') bn) :
    SR base m h w m (h.put b bn) { w with heap := w.heap.setIfInBounds r o' } := by
  have hlt := hr.rng b r s hm
  refine SR.put hr hb hw hm ?_ (fun r' hr' => ?_) (by simp) rfl rfl rfl
  · show BR m s ((w.heap.setIfInBounds r o')[r]?) bn
    rw [Array.getElem?_setIfInBounds_self_of_lt hlt]; exact hn
  · show (w.heap.setIfInBounds r o')[r']? = w.heap[r']?
    rw [Array.getElem?_setIfInBounds_ne (Ne.symm hr')]
theorem mapUpdate_sound {ty : TypeId} {x k y : Operand} (hr : HR base m h w) (ht : TR m t nt a.tmps) (ho : o.op = .mapUpdate ty x k y) {f : H → Tr V → Option (V × H)} (hc : wMapUpdate P ty (opX x) (opX k) (opX y) = .w f) {v : V} {h' : H} (hf : f h t = some (v, h')) :
    Does P base a o m h w v h' := by
  unfold wMapUpdate at hc
  split at hc
  · rename_i kt et hd
    cases hc
    dsimp only at hf
    split at hf
    · rename_i b kv yv hx hk hy
      split at hf
      · rename_i es clock k' hb hkp
        have hu := opX_VR ht hx
        have hyv := opX_VR ht hy
        cases hxv : a.eval x <;> rw [hxv] at hu <;> cases hu
        rename_i r hm
        have hkv := plain_VR hkp (opX_VR ht hk)
        obtain ⟨ar, har, hlen, hkeys, hrel⟩ := hr.mapAt hb hm
        have hex : ∀ w', (Instr.mapUpdate ty (.map (some r)) k' (a.eval y)).run P w = .ok () w' → (execOp a.eval o).run P w = .ok .skip w' := by
          intro w' hw'
          simp only [execOp, ho]
          rw [hxv, hkv, Sem.run_bind, hw']; rfl
        have hget : (getObj r).run P w = .ok (.map ar clock) w := by simp only [getObj, Sem.run, har]
        have hset : ∀ o', (setObj r o').run P w = .ok () { w with heap := w.heap.setIfInBounds r o' } := fun o' => run_setObj har (fun c e f he => by cases he)
        cases hfa : findAt P false kt k' es with
        | none => rw [hfa] at hf; cases hf
        | some res =>
          rw [hfa] at hf
          obtain ⟨hck, hfk⟩ := findAt_run hfa hkeys
          cases res with
          | none =>
            dsimp only at hf hfk
            cases hf
            refine ⟨.skip, undef, m, _, hex _ ?_, .inr ⟨rfl, rfl⟩, SR.setObj hr hb rfl hm (o' := .map (ar.push { key := k', val := a.eval y, born := clock }) (clock + 1)) ?_, VR.undef m⟩
            · unfold Instr.mapUpdate
              simp only [Sem.run_bind, run_und hd, Result.andThen_ok, hget, hck, hfk, hset]
            · refine ⟨rfl, _, rfl, by simp [hlen], fun j e z he hz => ?_⟩
              by_cases hj : j < es.length
              · rw [List.getElem?_append_left hj] at he
                rw [Array.getElem?_push, if_neg (by omega)] at hz
                exact hrel j e z he hz
              · have hj' : j = es.length := by
                  have := (List.getElem?_eq_some_iff.1 he).1; simp at this; omega
                subst hj'
                rw [List.getElem?_append_right (Nat.le_refl _)] at he
                simp at he; subst he
                rw [hlen, Array.getElem?_push, if_pos rfl] at hz
                cases hz
                exact ⟨rfl, rfl, hyv⟩
          | some j =>
            dsimp only at hf hfk
            cases hej : es[j]? with
            | none => rw [hej] at hf; cases hf
            | some en =>
              rw [hej] at hf; dsimp only at hf
              split at hf
              · rename_i hbits
                cases hf
                obtain ⟨e, he, hfr⟩ := hfk
                have he' : ar[j]? = some e := by simpa using he
                obtain ⟨hek, heb, _⟩ := hrel j en e hej he'
                refine ⟨.skip, undef, m, _, hex _ ?_, .inr ⟨rfl, rfl⟩, SR.setObj hr hb rfl hm (o' := .map (ar.modify j fun e => { e with key := k', val := a.eval y }) clock) ?_, VR.undef m⟩
                · unfold Instr.mapUpdate Instr.keyThatStays
                  simp only [Sem.run_bind, run_und hd, Result.andThen_ok, hget, hck, hfr, he', Option.map_some, Option.getD_some, hek, hbits, if_true, Sem.run_pure, hset]
                · refine ⟨rfl, _, rfl, by simp [hlen], fun i e2 z he2 hz => ?_⟩
                  rw [Array.getElem?_modify] at hz
                  rw [List.getElem?_set] at he2
                  by_cases hji : j = i
                  · subst hji
                    rw [if_pos rfl] at he2 hz
                    have hlt : j < es.length := (List.getElem?_eq_some_iff.1 hej).1
                    rw [if_pos hlt] at he2
                    cases he2
                    rw [he'] at hz; cases hz
                    exact ⟨rfl, heb, hyv⟩
                  · rw [if_neg hji] at he2 hz
                    exact hrel i e2 z he2 hz
              · cases hf
      · cases hf
    · cases hf
  · cases hc
theorem mapEntry_sound {ty : TypeId} {x k : Operand} (hr : HR base m h w) (ht : TR m t nt a.tmps) (ho : o.op = .mapEntry ty x k) {f : H → Tr V → Option (V × H)} (hc : wMapEntry P ty (opX x) (opX k) = .w f) {v : V} {h' : H} (hf : f h t = some (v, h')) :
    Does P base a o m h w v h' := by
  unfold wMapEntry at hc
  split at hc
  · rename_i kt et hd
    split at hc
    · rename_i z hz
      cases hc
      dsimp only at hf
      split at hf
      · rename_i b kv hx hk
        split at hf
        · rename_i es clock k' hb hkp
          have hu := opX_VR ht hx
          cases hxv : a.eval x <;> rw [hxv] at hu <;> cases hu
          rename_i r hm
          have hkv := plain_VR hkp (opX_VR ht hk)
          obtain ⟨ar, har, hlen, hkeys, hrel⟩ := hr.mapAt hb hm
          have hex : ∀ q w', (Instr.mapEntry ty (.map (some r)) k').run P w = .ok q w' → (execOp a.eval o).run P w = .ok (.value q) w' := by
            intro q w' hw'
            simp only [execOp, ho]
            refine val_run ?_
            rw [hxv, hkv]; exact hw'
          have hget : (getObj r).run P w = .ok (.map ar clock) w := by simp only [getObj, Sem.run, har]
          have hset : ∀ o', (setObj r o').run P w = .ok () { w with heap := w.heap.setIfInBounds r o' } := fun o' => run_setObj har (fun c e f he => by cases he)
          cases hfa : findAt P false kt k' es with
          | none => rw [hfa] at hf; cases hf
          | some res =>
            rw [hfa] at hf
            obtain ⟨hck, hfk⟩ := findAt_run hfa hkeys
            cases res with
            | none =>
              dsimp only at hf hfk
              obtain ⟨zx, hz1, hz2⟩ := run_zero hz
              have hzv := (ofVal_VR hz1 m).1
              cases hf
              refine ⟨.value (.tuple #[zx, .int .i64 (Int.ofNat clock)]), .tuple #[zx, .int .i64 (Int.ofNat clock)], m, _, hex _ _ ?_, .inl rfl, SR.setObj hr hb rfl hm (o' := .map (ar.push { key := k', val := zx, born := clock }) (clock + 1)) ?_, VRs.tup ((((VRs.nil m).cons (.int _ _)).cons hzv))⟩
              · unfold Instr.mapEntry
                simp only [Sem.run_bind, run_und hd, Result.andThen_ok, hget, hck, hfk, hz2, hset, Sem.run_pure]
                rfl
              · refine ⟨rfl, _, rfl, by simp [hlen], fun j e z' he hz' => ?_⟩
                by_cases hj : j < es.length
                · rw [List.getElem?_append_left hj] at he
                  rw [Array.getElem?_push, if_neg (by omega)] at hz'
                  exact hrel j e z' he hz'
                · have hj' : j = es.length := by
                    have := (List.getElem?_eq_some_iff.1 he).1; simp at this; omega
                  subst hj'
                  rw [List.getElem?_append_right (Nat.le_refl _)] at he
                  simp at he; subst he
                  rw [hlen, Array.getElem?_push, if_pos rfl] at hz'
                  cases hz'
                  exact ⟨rfl, rfl, hzv⟩
            | some j =>
              dsimp only at hf hfk
              cases hej : es[j]? with
              | none => rw [hej] at hf; cases hf
              | some en =>
                rw [hej] at hf; dsimp only at hf
                split at hf
                · rename_i hbits
                  cases hf
                  obtain ⟨e, he, hfr⟩ := hfk
                  have he' : ar[j]? = some e := by simpa using he
                  obtain ⟨hek, heb, hev⟩ := hrel j en e hej he'
                  refine ⟨.value (.tuple #[e.val, .int .i64 (Int.ofNat en.2.2)]), .tuple #[e.val, .int .i64 (Int.ofNat en.2.2)], m, _, hex _ _ ?_, .inl rfl, SR.setObj hr hb rfl hm (o' := .map (ar.modify j fun e => { e with key := k' }) clock) ?_, VRs.tup ((((VRs.nil m).cons (.int _ _)).cons hev))⟩
                  · unfold Instr.mapEntry Instr.keyThatStays
                    simp only [Sem.run_bind, run_und hd, Result.andThen_ok, hget, hck, hfr, he', Option.map_some, Option.getD_some, hek, hbits, if_true, Sem.run_pure, hset, heb]
                    rfl
                  · refine ⟨rfl, _, rfl, by simp [hlen], fun i e2 z' he2 hz' => ?_⟩
                    rw [Array.getElem?_modify] at hz'
                    rw [List.getElem?_set] at he2
                    by_cases hji : j = i
                    · subst hji
                      rw [if_pos rfl] at he2 hz'
                      have hlt : j < es.length := (List.getElem?_eq_some_iff.1 hej).1
                      rw [if_pos hlt] at he2
                      cases he2
                      rw [he'] at hz'; cases hz'
                      exact ⟨rfl, heb, hev⟩
                    · rw [if_neg hji] at he2 hz'
                      exact hrel i e2 z' he2 hz'
                · cases hf
        · cases hf
      · cases hf
    · cases hc
  · cases hc
theorem entryStore_sound {ty : TypeId} {x s y : Operand} (hr : HR base m h w) (ht : TR m t nt a.tmps) (ho : o.op = .entryStore ty x s y) {f : H → Tr V → Option (V × H)} (hc : wEntryStore (opX x) (opX s) (opX y) = .w f) {v : V} {h' : H} (hf : f h t = some (v, h')) :
    Does P base a o m h w v h' := by
  unfold wEntryStore at hc
  cases hc
  dsimp only at hf
  split at hf
  · rename_i b kk n yv hx hs hy
    split at hf
    · rename_i es clock hb
      split at hf
      · rename_i i hi
        split at hf
        · rename_i en hen
          cases hf
          have hu := opX_VR ht hx
          have hyv := opX_VR ht hy
          have hsv := opX_VR ht hs
          cases hxv : a.eval x <;> rw [hxv] at hu <;> cases hu
          rename_i r hm
          cases hsv' : a.eval s <;> rw [hsv'] at hsv <;> cases hsv
          obtain ⟨ar, har, hlen, hkeys, hrel⟩ := hr.mapAt hb hm
          have hget : (getObj r).run P w = .ok (.map ar clock) w := by simp only [getObj, Sem.run, har]
          have hset : ∀ o', (setObj r o').run P w = .ok () { w with heap := w.heap.setIfInBounds r o' } := fun o' => run_setObj har (fun c e f he => by cases he)
          have hfi : ar.findIdx? (fun e => ((e.born : Int) == n)) = some i := by
            have e1 : ar.toList.map (fun e => (e.born : Nat)) = es.map fun e => (e.2.2 : Nat) := by
              refine List.ext_getElem? fun j => ?_
              rw [List.getElem?_map, List.getElem?_map]
              cases hj : es[j]? with
              | none =>
                have : es.length ≤ j := by simpa using hj
                rw [List.getElem?_eq_none (by simp; omega)]; rfl
              | some e =>
                have hlt : j < es.length := (List.getElem?_eq_some_iff.1 hj).1
                have hlt2 : j < ar.size := by omega
                have hz : ar[j]? = some ar[j] := Array.getElem?_eq_getElem hlt2
                rw [Array.getElem?_toList, hz]
                obtain ⟨_, h2, _⟩ := hrel j e _ hj hz
                exact congrArg some h2
            have e0 : ∀ p : MapEntry → Bool, ar.findIdx? p = ar.toList.findIdx? p := fun p => by cases ar; simp
            rw [e0]
            have e2 : ar.toList.findIdx? (fun e => ((e.born : Int) == n)) = (ar.toList.map fun e => (e.born : Nat)).findIdx? (fun (q : Nat) => ((q : Int) == n)) := by rw [List.findIdx?_map]; rfl
            rw [e2, e1, List.findIdx?_map]
            unfold stampAt at hi
            rw [← hi]
            congr 1
            funext e
            show ((e.2.2 : Int) == n) = ieq (Int.ofNat e.2.2) n
            rw [ieq_eq]
            rw [Bool.eq_iff_iff]; simp
          refine ⟨.skip, undef, m, _, ?_, .inr ⟨rfl, rfl⟩, SR.setObj hr hb rfl hm (o' := .map (ar.modify i fun e => { e with val := a.eval y }) clock) ?_, VR.undef m⟩
          · simp only [execOp, ho]
            rw [hxv, hsv', Sem.run_bind]
            unfold Instr.entryStore asInt asIntOf
            simp only [Sem.run_bind, Result.andThen_ok, hget, Sem.run_pure, hfi, hset]
          · refine ⟨rfl, _, rfl, by simp [hlen], fun j e2 z he2 hz => ?_⟩
            rw [Array.getElem?_modify] at hz
            rw [List.getElem?_set] at he2
            by_cases hji : i = j
            · subst hji
              have hlt : i < es.length := (List.getElem?_eq_some_iff.1 hen).1
              rw [if_pos rfl, if_pos hlt] at he2
              rw [if_pos rfl] at hz
              cases he2
              have hlt2 : i < ar.size := by omega
              have hz2 : ar[i]? = some ar[i] := Array.getElem?_eq_getElem hlt2
              rw [hz2] at hz
              cases hz
              obtain ⟨q1, q2, _⟩ := hrel i en _ hen hz2
              exact ⟨q1, q2, hyv⟩
            · rw [if_neg hji] at he2 hz
              exact hrel j e2 z he2 hz
        · cases hf
      · cases hf
    · cases hf
  · cases hf
theorem delete_sound {ty ty2 : TypeId} {x k : Operand} {as : Array Operand} {ts : Array TypeId} (hr : HR base m h w) (ht : TR m t nt a.tmps) (ho : o.op = .call { callee := .builtin .delete, args := as, argTypes := ts }) (has : as.toList = [x, k]) (hts : ts.toList = [ty, ty2])
    {f : H → Tr V → Option (V × H)} (hc : wDelete P ty (opX x) (opX k) = .w f) {v : V} {h' : H} (hf : f h t = some (v, h')) : Does P base a o m h w v h' := by
  have has' : as = #[x, k] := by apply Array.ext'; simpa using has
  have hts' : ts = #[ty, ty2] := by apply Array.ext'; simpa using hts
  subst has'; subst hts'
  unfold wDelete at hc
  split at hc
  · rename_i kt et hd
    cases hc
    dsimp only at hf
    split at hf
    · rename_i b kv hx hk
      split at hf
      · rename_i es clock k' hb hkp
        have hu := opX_VR ht hx
        cases hxv : a.eval x <;> rw [hxv] at hu <;> cases hu
        rename_i r hm
        have hkv := plain_VR hkp (opX_VR ht hk)
        obtain ⟨ar, har, hlen, hkeys, hrel⟩ := hr.mapAt hb hm
        have hemp : es.isEmpty = ar.isEmpty := by
          rw [Bool.eq_iff_iff]; simp only [List.isEmpty_iff_length_eq_zero, Array.isEmpty_iff_size_eq_zero]; omega
        have hex : ∀ w', (Builtin.delete_ #[ty, ty2] o.type #[.map (some r), k']).run P w = .ok (.tuple #[]) w' → (execOp a.eval o).run P w = .ok (.value undef) w' := by
          intro w' hw'
          simp only [execOp, ho, resolve, invoke, builtin]
          simp only [Sem.run_bind, Sem.run_pure, Result.andThen_ok]
          have : (#[x, k].map a.eval) = #[.map (some r), k'] := by simp [hxv, hkv]
          rw [this, hw']; rfl
        have hget : (getObj r).run P w = .ok (.map ar clock) w := by simp only [getObj, Sem.run, har]
        have hset : ∀ o', (setObj r o').run P w = .ok () { w with heap := w.heap.setIfInBounds r o' } := fun o' => run_setObj har (fun c e f he => by cases he)
        cases hfa : findAt P es.isEmpty kt k' es with
        | none => rw [hfa] at hf; cases hf
        | some res =>
          rw [hfa] at hf
          rw [hemp] at hfa
          obtain ⟨hck, hfk⟩ := findAt_run hfa hkeys
          cases res with
          | none =>
            dsimp only at hf hfk
            cases hf
            refine ⟨_, undef, m, _, hex _ ?_, .inl rfl, SR.setObj hr hb rfl hm (o' := .map ar clock) ⟨rfl, ar, rfl, hlen, hrel⟩, VR.undef m⟩
            unfold Builtin.delete_
            simp only [Sem.run_bind, run_und hd, Result.andThen_ok, hget, hck, hfk, hset, List.getElem?_toArray, List.getElem?_cons_zero, List.getElem?_cons_succ, Sem.run_pure]
          | some j =>
            dsimp only at hf hfk
            cases hf
            obtain ⟨e, he, hfr⟩ := hfk
            have he' : ar[j]? = some e := by simpa using he
            have hj : j < ar.size := (Array.getElem?_eq_some_iff.1 he').1
            refine ⟨_, undef, m, _, hex _ ?_, .inl rfl, SR.setObj hr hb rfl hm (o' := .map (ar.eraseIdxIfInBounds j) clock) ⟨rfl, _, rfl, ?_, fun i e2 z he2 hz => ?_⟩, VR.undef m⟩
            · unfold Builtin.delete_
              simp only [Sem.run_bind, run_und hd, Result.andThen_ok, hget, hck, hfr, hset, List.getElem?_toArray, List.getElem?_cons_zero, List.getElem?_cons_succ, Sem.run_pure]
            · rw [List.length_eraseIdx, if_pos (by omega), Array.eraseIdxIfInBounds, dif_pos hj, Array.size_eraseIdx]; omega
            · rw [Array.eraseIdxIfInBounds, dif_pos hj] at hz
              have hz' : ((ar.eraseIdx j hj).toList)[i]? = some z := by rw [Array.getElem?_toList]; exact hz
              rw [Array.toList_eraseIdx, List.getElem?_eraseIdx] at hz'
              rw [List.getElem?_eraseIdx] at he2
              split at he2
              · rename_i hlt; rw [if_pos hlt] at hz'; exact hrel i e2 z he2 (by simpa using hz')
              · rename_i hlt; rw [if_neg hlt] at hz'; exact hrel (i + 1) e2 z he2 (by simpa using hz')
      · cases hf
    · cases hf
  · cases hc
end
end Go.As
/- Operations that write: clear, copy, append. -/
namespace Go.As
section
variable {base : Nat} {P : Program} {m : M} {h : H} {w : World} {t : Tr V} {nt : Nat} {a : Act} {o : Oper}
theorem builtin_run {b : Builtin} {as : Array Operand} {ts : Array TypeId} {s : Sem Value} {z : Value} {w' : World} (ho : o.op = .call { callee := .builtin b, args := as, argTypes := ts })
    (hb : ∀ consts, builtin b ts o.type consts (as.map a.eval) = (do pure (Next.value (← s)))) (hs : s.run P w = .ok z w') : (execOp a.eval o).run P w = .ok (.value z) w' := by
  simp only [execOp, ho, resolve, invoke]
  simp only [Sem.run_bind, Sem.run_pure, Result.andThen_ok, hb]
  rw [hs]; rfl
theorem clear_sound {ty : TypeId} {x : Operand} {as : Array Operand} {ts : Array TypeId} (hr : HR base m h w) (ht : TR m t nt a.tmps) (ho : o.op = .call { callee := .builtin .clear, args := as, argTypes := ts }) (has : as.toList = [x]) (hts : ts.toList = [ty])
    {f : H → Tr V → Option (V × H)} (hc : wClear P ty (opX x) = .w f) {v : V} {h' : H} (hf : f h t = some (v, h')) : Does P base a o m h w v h' := by
  have has' : as = #[x] := by apply Array.ext'; simpa using has
  have hts' : ts = #[ty] := by apply Array.ext'; simpa using hts
  subst has'; subst hts'
  unfold wClear at hc
  split at hc
  · rename_i el hd
    split at hc
    · rename_i z sz hz hs
      split at hc
      · rename_i hcond
        obtain ⟨hzl, hzo⟩ := hcond
        cases hc
        dsimp only at hf
        have hex : ∀ w', (Builtin.clear_ #[ty] o.type #[a.eval x]).run P w = .ok (.tuple #[]) w' → (execOp a.eval o).run P w = .ok (.value undef) w' :=
          fun w' hw' => builtin_run (s := Builtin.clear_ #[ty] o.type #[a.eval x]) ho (fun consts => by simp [builtin]) hw'
        split at hf
        · rename_i hx
          cases hf
          have hu := opX_VR ht hx
          cases hxv : a.eval x <;> rw [hxv] at hu <;> cases hu
          refine ⟨_, undef, m, w, hex w ?_, .inl rfl, .refl hr, VR.undef m⟩
          rw [hxv]
          unfold Builtin.clear_
          simp only [Sem.run_bind, run_und hd, Result.andThen_ok, List.getElem?_toArray, List.getElem?_cons_zero, Sem.run_pure]
        · rename_i b q n cap ex hx
          split at hf
          · rename_i c g hb
            cases hput : putN (rep n z.cells) c q with
            | none => rw [hput] at hf; cases hf
            | some c' =>
              rw [hput] at hf; cases hf
              have hu := opX_VR ht hx
              cases hxv : a.eval x <;> rw [hxv] at hu <;> cases hu
              case sl0 =>
                rename_i r ad s hm
                have hput0 : putN [] c q = some c' := hput
                obtain ⟨hrun, hsr⟩ := hr.store (P := P) hb hm hput0 (VRs.nil m) rfl
                refine ⟨_, undef, m, _, hex _ ?_, .inl rfl, hsr, VR.undef m⟩
                rw [hxv]
                unfold Builtin.clear_
                simp only [Sem.run_bind, run_und hd, Result.andThen_ok, List.getElem?_toArray, List.getElem?_cons_zero]
                simp only [Sem.run_pure]
                congr 1
              rename_i cap' r s hm _
              obtain ⟨zx, hz1, hz2⟩ := run_zero hz
              obtain ⟨_, hzc, _⟩ := ofVal_VR hz1 m
              have hzs := zeros_VRs hzc n (n * zx.cells.size) rfl
              obtain ⟨hrun, hsr⟩ := hr.store (P := P) hb hm hput hzs (rep_all n hzo)
              refine ⟨_, undef, m, _, hex _ ?_, .inl rfl, hsr, VR.undef m⟩
              rw [hxv]
              unfold Builtin.clear_
              simp only [Sem.run_bind, run_und hd, Result.andThen_ok, List.getElem?_toArray, List.getElem?_cons_zero]
              cases n with
              | zero =>
                simp only [Sem.run_pure]
                congr 1
                have : ((Array.range (0 * zx.cells.size)).map (fun i => zx.cells[i % zx.cells.size]!)).toList = [] := by simp
                rw [this]; rfl
              | succ n =>
                simp only [Sem.run_bind, hz2, Result.andThen_ok]
                unfold Builtin.zeroCells
                rw [hrun]; rfl
          · cases hf
        · cases hf
      · cases hc
    · cases hc
  · rename_i kt et hd
    cases hc
    dsimp only at hf
    have hex : ∀ w', (Builtin.clear_ #[ty] o.type #[a.eval x]).run P w = .ok (.tuple #[]) w' → (execOp a.eval o).run P w = .ok (.value undef) w' :=
      fun w' hw' => builtin_run (s := Builtin.clear_ #[ty] o.type #[a.eval x]) ho (fun consts => by simp [builtin]) hw'
    split at hf
    · rename_i hx
      cases hf
      have hu := opX_VR ht hx
      cases hxv : a.eval x <;> rw [hxv] at hu <;> cases hu
      refine ⟨_, undef, m, w, hex w ?_, .inl rfl, .refl hr, VR.undef m⟩
      rw [hxv]
      unfold Builtin.clear_
      simp only [Sem.run_bind, run_und hd, Result.andThen_ok, List.getElem?_toArray, List.getElem?_cons_zero, Sem.run_pure]
    · rename_i b hx
      split at hf
      · rename_i es clock hb
        cases hf
        have hu := opX_VR ht hx
        cases hxv : a.eval x <;> rw [hxv] at hu <;> cases hu
        rename_i r hm
        obtain ⟨ar, har, hlen, _, _⟩ := hr.mapAt hb hm
        have hget : (getObj r).run P w = .ok (.map ar clock) w := by simp only [getObj, Sem.run, har]
        have hset : ∀ o', (setObj r o').run P w = .ok () { w with heap := w.heap.setIfInBounds r o' } := fun o' => run_setObj har (fun c e f he => by cases he)
        refine ⟨_, undef, m, _, hex _ ?_, .inl rfl, SR.setObj hr hb rfl hm (o' := .map #[] clock) ⟨rfl, #[], rfl, rfl, fun k e x he => by simp at he⟩, VR.undef m⟩
        rw [hxv]
        unfold Builtin.clear_
        simp only [Sem.run_bind, run_und hd, Result.andThen_ok, List.getElem?_toArray, List.getElem?_cons_zero, hget, hset, Sem.run_pure]
      · cases hf
    · cases hf
  · cases hc
theorem copy_sound {ty ty2 : TypeId} {d s : Operand} {as : Array Operand} {ts : Array TypeId} (hr : HR base m h w) (ht : TR m t nt a.tmps) (ho : o.op = .call { callee := .builtin .copy, args := as, argTypes := ts }) (has : as.toList = [d, s]) (hts : ts.toList = [ty, ty2])
    {f : H → Tr V → Option (V × H)} (hc : wCopy P ty (opX d) (opX s) = .w f) {v : V} {h' : H} (hf : f h t = some (v, h')) : Does P base a o m h w v h' := by
  have has' : as = #[d, s] := by apply Array.ext'; simpa using has
  have hts' : ts = #[ty, ty2] := by apply Array.ext'; simpa using hts
  subst has'; subst hts'
  unfold wCopy at hc
  split at hc
  · rename_i el hd
    split at hc
    · rename_i sz hs
      cases hc
      dsimp only at hf
      have hex : ∀ z w', (Builtin.copy_ #[ty, ty2] o.type #[a.eval d, a.eval s]).run P w = .ok z w' → (execOp a.eval o).run P w = .ok (.value z) w' :=
        fun z w' hw' => builtin_run (s := Builtin.copy_ #[ty, ty2] o.type #[a.eval d, a.eval s]) ho (fun consts => by simp [builtin]) hw'
      split at hf
      · rename_i b q dn cap ex b' q' sn cap2 ex2 hdx hsx
        split at hf
        · rename_i c g c' _ _ hb hb'
          cases hg : getN c' (min sn dn * sz) q' with
          | none => rw [hg] at hf; cases hf
          | some r =>
            rw [hg] at hf; dsimp only at hf
            split at hf
            · rename_i hone
              cases hput : putN r c q with
              | none => rw [hput] at hf; cases hf
              | some c2 =>
                rw [hput] at hf; cases hf
                have hu := opX_VR ht hdx
                have hu' := opX_VR ht hsx
                have fin : ∀ (dr : Nat) (ds : Nat × Nat) (da dcap' : Nat) (sr : Nat) (ss : Nat × Nat) (sa scap' : Nat), m b = some (dr, ds) → m b' = some (sr, ss) → (da = ds.1 + q ∨ dn = 0) → (sa = ss.1 + q' ∨ sn = 0) →
                    a.eval d = .slice (some ⟨dr, da, none⟩) dn dcap' → a.eval s = .slice (some ⟨sr, sa, none⟩) sn scap' → Does P base a o m h w (.int .i64 (min sn dn : Nat)) (h.put b (.cells c2 true g)) := by
                  intro dr ds da dcap' sr ss sa scap' hmd hms hda hsa hdv hsv
                  obtain ⟨xs, hxl, hxv, _, hload⟩ := hr.cells (P := P) hb' hms hg
                  obtain ⟨hrun, hsr⟩ := hr.store (P := P) hb hmd hput hxv hone
                  refine ⟨_, _, m, _, hex (.int .i64 (min sn dn : Nat)) _ ?_, .inl rfl, hsr, .int _ _⟩
                  rw [hdv, hsv]
                  unfold Builtin.copy_ Builtin.lenOf Builtin.firstCells
                  simp only [Sem.run_bind, run_und hd, Result.andThen_ok, List.getElem?_toArray, List.getElem?_cons_zero, List.getElem?_cons_succ, Sem.run_pure, run_size hs]
                  rw [show Nat.min sn dn = min sn dn from rfl]
                  by_cases h0 : min sn dn = 0
                  · have hz : min sn dn * sz = 0 := by rw [h0, Nat.zero_mul]
                    have hx0 : xs = [] := List.eq_nil_of_length_eq_zero (by rw [hxl, hz])
                    subst hx0
                    rw [hz, h0]
                    rfl
                  · have e1 : da = ds.1 + q := by omega
                    have e2 : sa = ss.1 + q' := by omega
                    subst e1 e2
                    rw [hload]
                    simp only [Result.andThen_ok, hrun]
                    rfl
                cases hdv : a.eval d <;> rw [hdv] at hu <;> cases hu
                all_goals (cases hsv : a.eval s <;> rw [hsv] at hu' <;> cases hu')
                · rename_i hmd _ _ _ _ hms _; exact fin _ _ _ _ _ _ _ _ hmd hms (.inl rfl) (.inl rfl) hdv hsv
                · rename_i hmd _ _ _ _ hms; exact fin _ _ _ _ _ _ _ _ hmd hms (.inl rfl) (.inr rfl) hdv hsv
                · rename_i hmd _ _ _ hms _; exact fin _ _ _ _ _ _ _ _ hmd hms (.inr rfl) (.inl rfl) hdv hsv
                · rename_i hmd _ _ _ hms; exact fin _ _ _ _ _ _ _ _ hmd hms (.inr rfl) (.inr rfl) hdv hsv
            · cases hf
        · cases hf
      · rename_i b q dn cap ex ex2 sz' sn gg hdx hsx
        split at hf
        · rename_i c g hb hsz
          split at hf
          · rename_i hone
            cases hput : putN (flat gg (min sn dn) 0) c q with
            | none => rw [hput] at hf; cases hf
            | some c2 =>
              rw [hput] at hf; cases hf
              have hu := opX_VR ht hdx
              have hu' := opX_VR ht hsx
              have hsz' := Nat.eq_of_beq_eq_true hsz
              subst hsz'
              generalize hsv : a.eval s = y at hu' hex
              cases hu' with
              | rsl h' =>
                obtain ⟨bb, cap2, xs, rfl, hn, _, hfl, hxl, hxv, hone', hload⟩ := hr.rslCells (P := P) h' (k := min sn dn) (Nat.min_le_left _ _)
                have fin : ∀ (dr : Nat) (ds : Nat × Nat) (da dcap' : Nat), m b = some (dr, ds) → (da = ds.1 + q ∨ dn = 0) →
                    a.eval d = .slice (some ⟨dr, da, none⟩) dn dcap' → Does P base a o m h w (.int .i64 (min sn dn : Nat)) (h.put b (.cells c2 true g)) := by
                  intro dr ds da dcap' hmd hda hdv
                  obtain ⟨hrun, hsr⟩ := hr.store (P := P) hb hmd hput hxv hone
                  refine ⟨_, _, m, _, hex (.int .i64 (min sn dn : Nat)) _ ?_, .inl rfl, hsr, .int _ _⟩
                  rw [hdv]
                  unfold Builtin.copy_ Builtin.lenOf Builtin.firstCells
                  simp only [Sem.run_bind, run_und hd, Result.andThen_ok, List.getElem?_toArray, List.getElem?_cons_zero, List.getElem?_cons_succ, Sem.run_pure, run_size hs]
                  rw [show Nat.min sn dn = min sn dn from rfl]
                  by_cases h0 : min sn dn = 0
                  · have hz : min sn dn * sz' = 0 := by rw [h0, Nat.zero_mul]
                    have hx0 : xs = [] := List.eq_nil_of_length_eq_zero (by rw [hxl, hz])
                    subst hx0
                    rw [hz, h0]
                    cases bb <;> rfl
                  · have e1 : da = ds.1 + q := by omega
                    subst e1
                    obtain ⟨ad, rfl, _, hl2⟩ := hload h0
                    rw [hl2]
                    simp only [Result.andThen_ok, hrun]
                    rfl
                cases hdv : a.eval d <;> rw [hdv] at hu <;> cases hu
                · rename_i hmd _; exact fin _ _ _ _ hmd (.inl rfl) hdv
                · rename_i hmd; exact fin _ _ _ _ hmd (.inr rfl) hdv
          · cases hf
        · cases hf
      · rename_i b' q' sn cap2 ex2 hdx hsx
        cases hf
        have hu := opX_VR ht hdx
        have hu' := opX_VR ht hsx
        cases hdv : a.eval d <;> rw [hdv] at hu <;> cases hu
        cases hsv : a.eval s <;> rw [hsv] at hu' <;> cases hu'
        all_goals
          refine ⟨_, _, m, w, hex (.int .i64 0) w ?_, .inl rfl, .refl hr, .int _ _⟩
          rw [hdv, hsv]
          unfold Builtin.copy_ Builtin.lenOf Builtin.firstCells
          simp only [Sem.run_bind, run_und hd, Result.andThen_ok, List.getElem?_toArray, List.getElem?_cons_zero, List.getElem?_cons_succ, Sem.run_pure, run_size hs]
          try rw [show Nat.min sn 0 = 0 from by simp]
          try simp only [Nat.zero_mul]
          first | rfl | (rw [show Nat.min 0 0 = 0 from rfl, Nat.zero_mul]; rfl)
      · rename_i b q dn cap ex hdx hsx
        cases hf
        have hu := opX_VR ht hdx
        have hu' := opX_VR ht hsx
        cases hdv : a.eval d <;> rw [hdv] at hu <;> cases hu
        all_goals
          cases hsv : a.eval s <;> rw [hsv] at hu' <;> cases hu'
          refine ⟨_, _, m, w, hex (.int .i64 0) w ?_, .inl rfl, .refl hr, .int _ _⟩
          rw [hdv, hsv]
          unfold Builtin.copy_ Builtin.lenOf Builtin.firstCells
          simp only [Sem.run_bind, run_und hd, Result.andThen_ok, List.getElem?_toArray, List.getElem?_cons_zero, List.getElem?_cons_succ, Sem.run_pure, run_size hs]
          try rw [show Nat.min 0 dn = 0 from by simp]
          first | rfl | (rw [show Nat.min 0 0 = 0 from rfl]; rfl)
      · rename_i hdx hsx
        cases hf
        have hu := opX_VR ht hdx
        have hu' := opX_VR ht hsx
        cases hdv : a.eval d <;> rw [hdv] at hu <;> cases hu
        cases hsv : a.eval s <;> rw [hsv] at hu' <;> cases hu'
        refine ⟨_, _, m, w, hex (.int .i64 0) w ?_, .inl rfl, .refl hr, .int _ _⟩
        rw [hdv, hsv]
        unfold Builtin.copy_ Builtin.lenOf Builtin.firstCells
        simp only [Sem.run_bind, run_und hd, Result.andThen_ok, List.getElem?_toArray, List.getElem?_cons_zero, List.getElem?_cons_succ, Sem.run_pure, run_size hs]
        rfl
      · cases hf
    · cases hc
  · cases hc
end
end Go.As
/- append. -/
namespace Go.As
theorem setCells_block {r : Nat} {e : TypeId} {lo hi : Nat} : ∀ (ys : List Value) (p : Nat) (w : World) (a : Array Value), w.heap[r]? = some (.cells a e (lo, hi)) →
      ∃ a' : Array Value, (w.setCells r p ys).heap[r]? = some (.cells a' e (lo, hi)) ∧ a'.size = a.size ∧ (∀ i, i < p ∨ p + ys.length ≤ i → a'[i]? = a[i]?) ∧
        (∀ j y, ys[j]? = some y → p + j < a.size → a'[p + j]? = some y) ∧ (∀ r', r' ≠ r → (w.setCells r p ys).heap[r']? = w.heap[r']?) ∧
        (w.setCells r p ys).heap.size = w.heap.size ∧ (w.setCells r p ys).os = w.os ∧ (w.setCells r p ys).tape = w.tape ∧ (w.setCells r p ys).output = w.output := by
  intro ys
  induction ys with
  | nil => intro p w a ha; exact ⟨a, ha, rfl, fun _ _ => rfl, fun j y hj => by simp at hj, fun _ _ => rfl, rfl, rfl, rfl, rfl⟩
  | cons y ys ih =>
    intro p w a ha
    have h1 : (w.setCell ⟨r, p, none⟩ y).heap[r]? = some (.cells (a.setIfInBounds p y) e (lo, hi)) := by
      simp [World.setCell, Array.getElem?_modify, ha]
    obtain ⟨a', g1, g2, g3, g4, g5, g6, g7, g8, g9⟩ := ih (p + 1) (w.setCell ⟨r, p, none⟩ y) _ h1
    refine ⟨a', g1, by rw [g2]; simp, fun i hi => ?_, fun j z hj hlt => ?_, fun r' hr' => ?_, ?_, g7, g8, g9⟩
    · rw [g3 i (by simp at hi; omega), Array.getElem?_setIfInBounds_ne (by simp at hi; omega)]
    · cases j with
      | zero =>
        simp at hj; subst hj
        rw [Nat.add_zero, g3 p (.inl (by omega)), Array.getElem?_setIfInBounds_self_of_lt (by omega)]
      | succ j =>
        have := g4 j z (by simpa using hj) (by simp; omega)
        rw [show p + (j + 1) = p + 1 + j from by omega]; exact this
    · rw [World.setCells, g5 r' hr']
      simp [World.setCell, Array.getElem?_modify, Ne.symm hr']
    · rw [World.setCells, g6]; simp
section
variable {base : Nat} {P : Program} {m : M} {h : H} {w : World}
theorem SR.move (hr : HR base m h w) {b : Nat} {bo bn : Blk} {r : Nat} {s s' : Nat × Nat} {w' : World} (hb : h.get b = some bo) (hw : bo.wr = true) (hm : m b = some (r, s))
    (hn : BR (m.set h.n (r, s')) s' (w'.heap[r]?) bn) (ho : ∀ r', r' ≠ r → w'.heap[r']? = w.heap[r']?) (hz : w'.heap.size = w.heap.size)
    (h1 : w'.os = w.os) (h2 : w'.tape = w.tape) (h3 : w'.output = w.output) : SR base m h w (m.set h.n (r, s')) ((h.put b .dead).new bn) w' := by
  have hfree : m h.n = none := hr.dom h.n (Nat.le_refl _)
  have hget : ∀ j, ((h.put b .dead).new bn).get j = if j = h.n then some bn else if j = b then some .dead else h.get j := by
    intro j; rw [H.get_new, H.n_put, H.get_put]
  have hbn : b ≠ h.n := fun he => by have := hr.lt b bo hb; omega
  have hother : ∀ (i : Nat) (bi : Blk) (s2 : Nat × Nat), i ≠ h.n → ((h.put b .dead).new bn).get i = some bi → bi.live = true → m i ≠ some (r, s2) := by
    intro i bi s2 hin hi hlive hmi
    rw [hget, if_neg hin] at hi
    by_cases hib : i = b
    · rw [if_pos hib] at hi; cases hi; cases hlive
    · rw [if_neg hib] at hi
      exact hib (hr.inj b i bo bi _ _ _ hb hi hw hlive hm hmi).symm
  exact {
    ext := .set _ hfree
    new := fun i p hp hni => by
      by_cases he : i = h.n
      · subst he; rw [H.n_new, H.n_put]; omega
      · rw [M.set_ne _ _ he, hni] at hp; cases hp
    hr := {
      blk := fun i bi r' s2 hi hmi => by
        by_cases he : i = h.n
        · subst he
          rw [hget, if_pos rfl] at hi; cases hi
          rw [M.set_same] at hmi; cases hmi; exact hn
        · rw [M.set_ne _ _ he] at hmi
          cases hlive : bi.live with
          | false => cases bi <;> simp [Blk.live] at hlive; trivial
          | true =>
            have hne : r' ≠ r := fun hrr => by subst hrr; exact hother i bi s2 he hi hlive hmi
            rw [hget, if_neg he] at hi
            by_cases hib : i = b
            · rw [if_pos hib] at hi; cases hi; cases hlive
            · rw [if_neg hib] at hi
              rw [ho r' hne]
              exact (hr.blk i bi r' s2 hi hmi).mono (.set _ hfree)
      inj := fun i j bi bj r1 s1 s2 hi hj hwi hlj hmi hmj => by
        by_cases hei : i = h.n
        · by_cases hej : j = h.n
          · rw [hei, hej]
          · subst hei
            rw [M.set_same] at hmi; cases hmi
            rw [M.set_ne _ _ hej] at hmj
            exact absurd hmj (hother j bj s2 hej hj hlj)
        · rw [M.set_ne _ _ hei] at hmi
          by_cases hej : j = h.n
          · subst hej
            rw [M.set_same] at hmj; cases hmj
            exact absurd hmi (hother i bi s1 hei hi (Blk.live_of_wr hwi))
          · rw [M.set_ne _ _ hej] at hmj
            rw [hget, if_neg hei] at hi
            rw [hget, if_neg hej] at hj
            by_cases hib : i = b
            · rw [if_pos hib] at hi; cases hi; cases hwi
            · rw [if_neg hib] at hi
              by_cases hjb : j = b
              · rw [if_pos hjb] at hj; cases hj; cases hlj
              · rw [if_neg hjb] at hj
                exact hr.inj i j bi bj _ _ _ hi hj hwi hlj hmi hmj
      own := fun i bi r' s2 hi hwi hmi => by
        by_cases he : i = h.n
        · subst he; rw [M.set_same] at hmi; cases hmi; exact hr.own b bo _ _ hb hw hm
        · rw [M.set_ne _ _ he] at hmi
          rw [hget, if_neg he] at hi
          by_cases hib : i = b
          · rw [if_pos hib] at hi; cases hi; cases hwi
          · rw [if_neg hib] at hi; exact hr.own i bi r' s2 hi hwi hmi
      rng := fun i r' s2 hmi => by
        rw [hz]
        by_cases he : i = h.n
        · subst he; rw [M.set_same] at hmi; cases hmi; exact hr.rng b _ _ hm
        · rw [M.set_ne _ _ he] at hmi; exact hr.rng i r' s2 hmi
      lt := fun i bi hi => by
        rw [H.n_new, H.n_put]
        by_cases he : i = h.n
        · omega
        · rw [hget, if_neg he] at hi
          by_cases hib : i = b
          · subst hib; have := hr.lt _ bo hb; omega
          · rw [if_neg hib] at hi; have := hr.lt i bi hi; omega
      dom := fun i hi => by
        rw [H.n_new, H.n_put] at hi
        rw [M.set_ne _ _ (by omega)]; exact hr.dom i (by omega)
      frz := fun r' p hp => by
        rw [ho r' (fun he => by have := hr.nfz b bo r s hb hw hm; rw [← he] at this; have hp' : m.fz r' = some p := hp; rw [hp'] at this; cases this)]
        exact hr.frz r' p hp
      nfz := fun i bi r' s2 hi hwi hmi => by
        by_cases he : i = h.n
        · subst he; rw [M.set_same] at hmi; cases hmi; exact hr.nfz b bo r s hb hw hm
        · rw [M.set_ne _ _ he] at hmi
          rw [hget, if_neg he] at hi
          by_cases hib : i = b
          · rw [if_pos hib] at hi; cases hi; cases hwi
          · rw [if_neg hib] at hi; exact hr.nfz i bi r' s2 hi hwi hmi }
    n := by rw [H.n_new, H.n_put]; omega
    os := h1
    tape := h2
    output := h3
    size := Nat.le_of_eq hz.symm
    frame := fun r' _ hno => ho r' (fun he => hno b bo s hb hw (he ▸ hm))
    fresh := fun i bi r' s2 hi hwi hmi => by
      right
      by_cases he : i = h.n
      · subst he; rw [M.set_same] at hmi; cases hmi; exact ⟨b, bo, s, hb, hw, hm⟩
      · rw [M.set_ne _ _ he] at hmi
        rw [hget, if_neg he] at hi
        by_cases hib : i = b
        · rw [if_pos hib] at hi; cases hi; cases hwi
        · rw [if_neg hib] at hi; exact ⟨i, bi, s2, hi, hwi, hmi⟩
    low := fun i hi hl => by
      rw [H.low_new] at hl
      have := H.low_put h b .dead
      rw [hget, if_neg (by omega), if_neg (by omega)]
    lowle := by rw [H.low_new]; exact (H.low_put h b .dead).1
    fzn := fun _ _ h => .inl h
    keep := fun i hi hmi => by
      rw [hget, if_neg (by omega), if_neg]
      intro he; subst he; rw [hm] at hmi; cases hmi }
theorem storeCells_nil (ad : Addr) (r k : Nat) (w : World) : (storeCells ad []).run P w = .ok () (w.setCells r k []) := rfl
theorem firstCells_zero {sz : Nat} {ad : Addr} (w : World) : (Builtin.firstCells sz 0 (.slice (some ad) 0 0)).run P w = .ok #[] w := by
  unfold Builtin.firstCells
  simp only [Nat.zero_mul]
  rfl
theorem added_run (hr : HR base m h w) {sz n : Nat} {xv : V} {x : Value} {r : List V} (hv : VR m xv x) (ha : added sz h xv = some (n, r)) :
    r.all one = true ∧ r.length = n * sz ∧ (∀ w, (Builtin.lenOf x).run P w = .ok n w) ∧ ∃ rs : List Value, VRs m r rs ∧ (Builtin.firstCells sz n x).run P w = .ok rs.toArray w ∧ (Builtin.firstCells sz n x).run P w.drew = .ok rs.toArray w.drew := by
  unfold added at ha
  split at ha
  · cases ha
    cases hv
    exact ⟨rfl, by simp, fun w => rfl, [], VRs.nil m, rfl, rfl⟩
  · rename_i b o len cap ex
    split at ha
    · rename_i c wr g hb
      split at ha
      · rename_i l hg
        split at ha
        · rename_i hone
          cases ha
          cases hv
          case sl0 =>
            rw [Nat.zero_mul] at hg
            have hr0 : r = [] := by cases hg; rfl
            subst hr0
            exact ⟨rfl, by simp, fun w => rfl, [], VRs.nil m, firstCells_zero w, firstCells_zero w.drew⟩
          rename_i rr s cap' hm he
          obtain ⟨xs, _, hxv, hc, hload⟩ := hr.cells (P := P) hb hm hg
          obtain ⟨xs', _, _, hc', hload'⟩ := hr.drew.cells (P := P) hb hm hg
          refine ⟨hone, (getN_spec hg).1, fun w => rfl, xs, hxv, hload, ?_⟩
          have hx : xs' = xs := by
            apply List.ext_getElem?
            intro k
            have hl1 : xs'.length = n * sz := by assumption
            have hl2 : xs.length = n * sz := by assumption
            by_cases hk : k < n * sz
            · have e1 := hc k xs[k] (List.getElem?_eq_getElem (by omega))
              have e2 := hc' k xs'[k] (List.getElem?_eq_getElem (by omega))
              rw [World.cell?_drew] at e2
              rw [e1] at e2
              rw [List.getElem?_eq_getElem (by omega), List.getElem?_eq_getElem (by omega)]
              exact e2.symm
            · rw [List.getElem?_eq_none (by omega), List.getElem?_eq_none (by omega)]
          rw [← hx]; exact hload'
        · cases ha
      · cases ha
    · cases ha
  · rename_i ex sz' n' g
    split at ha
    · rename_i hsz
      have hsz' := Nat.eq_of_beq_eq_true hsz
      subst hsz'
      split at ha
      · rename_i hone
        cases ha
        cases hv with
        | rsl hv =>
          obtain ⟨bb, cap2, xs, rfl, hn, _, hfl, hxl, hxv, hone', hload⟩ := hr.rslCells (P := P) hv (Nat.le_refl _)
          have hfc : ∀ (w : World) (ys : List Value), ys.length = n * sz' → (n ≠ 0 → ∃ a, bb = some a ∧ (loadCells a (n * sz')).run P w = .ok ys.toArray w) → (Builtin.firstCells sz' n (.slice bb n cap2)).run P w = .ok ys.toArray w := by
            intro w ys hyl hl
            unfold Builtin.firstCells
            by_cases h0 : n = 0
            · have hz : n * sz' = 0 := by rw [h0, Nat.zero_mul]
              have hx0 : ys = [] := List.eq_nil_of_length_eq_zero (by rw [hyl, hz])
              subst hx0
              rw [hz]
              cases bb <;> rfl
            · obtain ⟨ad, rfl, hl2⟩ := hl h0
              exact hl2
          refine ⟨hone.1, hone.2, fun w => rfl, xs, hxv, hfc w xs hxl (fun h0 => let ⟨a, h1, _, h2⟩ := hload h0; ⟨a, h1, h2⟩), ?_⟩
          refine hfc _ xs hxl (fun h0 => ?_)
          obtain ⟨a1, h1, h2, _⟩ := hload h0
          refine ⟨a1, h1, ?_⟩
          rw [← hxl]
          exact run_loadCells_list _ _ _ (fun j v hj => by rw [World.cell?_drew]; exact h2 j v hj)
      · cases ha
    · cases ha
  · cases ha
theorem grow_run {ty tu el ty0 : TypeId} {i : TypeInfo} {d : TypeId} {zx : Value} (hd : P.underlying ty = some (.slice el)) (hdu : P.underlying tu = some (.slice d)) (hi : P.info? el = some i) (hby : i.bytes ≤ 2 ^ 20)
    (hz : ∀ w, (zeroValue el).run P w = .ok zx w) (hzs : zx.cells.size = i.size) {base0 : Option Addr} {len cap' n : Nat} {x : Value} {olds news : List Value} (hgrow : ¬ len + n ≤ cap') (hsmall : len + n ≤ 2 ^ 20)
    (hlen : ∀ w, (Builtin.lenOf x).run P w = .ok n w) (hold : (Builtin.firstCells i.size len (.slice base0 len cap')).run P w.drew = .ok olds.toArray w.drew) (hnew : (Builtin.firstCells i.size n x).run P w.drew = .ok news.toArray w.drew) :
    ∃ (newCap : Nat) (rest : List Value), len + n ≤ newCap ∧ (newCap - (len + n)) * i.size = rest.length ∧
      (Builtin.append_ #[ty, tu] ty0 #[.slice base0 len cap', x]).run P w = .ok (.slice (some ⟨w.heap.size, 0, none⟩) (len + n) newCap) (w.drew.alloc (.cells ((olds ++ news) ++ rest).toArray el)) := by
  have hs : sizeOf? P el = some i.size := by unfold sizeOf?; rw [hi]
  have hti : ∀ w, (typeInfo el).run P w = .ok i w := fun w => by unfold typeInfo; simp only [Sem.run_bind, run_program, Result.andThen_ok, hi, Sem.run_pure]
  let newCap := (Question.appendCap (len + n) cap' el).cut (w.tape w.drawn (.appendCap (len + n) cap' el))
  have hcap : len + n ≤ newCap := by show len + n ≤ len + n + _; omega
  have hnsc := nextslicecap_le (len + n) cap' (by omega)
  have hmul : Builtin.nextslicecap (len + n) cap' * i.bytes ≤ 2 ^ 48 := by
    refine Nat.le_trans (Nat.mul_le_mul (show _ ≤ 2 ^ 22 by omega) hby) (by decide)
  refine ⟨newCap, (Builtin.zeroCells zx.cells (newCap - (len + n))).toList, hcap, by unfold Builtin.zeroCells; simp [hzs], ?_⟩
  unfold Builtin.append_
  simp only [Sem.run_bind, run_und hd, run_und hdu, Result.andThen_ok, List.getElem?_toArray, List.getElem?_cons_zero, List.getElem?_cons_succ, run_size hs, Sem.run_pure, Bool.false_eq_true, if_false, hlen]
  rw [if_neg hgrow]
  have hint : ¬ ((((len + n : Nat) : Int) > IntKind.i64.max) ∧ (False ∨ i.bytes = 0)) := by
    intro hc
    have : IntKind.i64.max = 9223372036854775807 := by simp [IntKind.max, IntKind.signed, IntKind.bits]
    rw [this] at hc
    omega
  simp only [Sem.run_bind, hti, Result.andThen_ok]
  rw [if_neg hint]
  simp only [Sem.run_bind, hti, Result.andThen_ok]
  rw [if_neg (by omega)]
  have hforced : (Question.appendCap (len + n) cap' el).forced = false := rfl
  simp only [Sem.run_bind, run_choose, hforced, Bool.false_eq_true, if_false, Result.andThen_ok, hti, run_askRoom, Bool.not_false, if_true]
  change ((Builtin.firstCells i.size len (.slice base0 len cap')).run P w.drew).andThen _ = _
  rw [hold]
  simp only [Result.andThen_ok, hnew, hz, run_newRow, Sem.run_pure]
  congr 3
  apply Array.ext'
  simp
  rfl
theorem room_run {ty tu el ty0 : TypeId} {i : TypeInfo} {d : TypeId} (hd : P.underlying ty = some (.slice el)) (hdu : P.underlying tu = some (.slice d)) (hi : P.info? el = some i)
    {b0 : Addr} {len cap' n : Nat} {x : Value} {news : List Value} {w' : World} (hroom : len + n ≤ cap') (hlen : ∀ w, (Builtin.lenOf x).run P w = .ok n w)
    (hnew : (Builtin.firstCells i.size n x).run P w = .ok news.toArray w) (hst : (storeCells (b0.add (len * i.size)) news).run P w = .ok () w') :
    (Builtin.append_ #[ty, tu] ty0 #[.slice (some b0) len cap', x]).run P w = .ok (.slice (some b0) (len + n) cap') w' := by
  have hs : sizeOf? P el = some i.size := by unfold sizeOf?; rw [hi]
  unfold Builtin.append_
  simp only [Sem.run_bind, run_und hd, run_und hdu, Result.andThen_ok, List.getElem?_toArray, List.getElem?_cons_zero, List.getElem?_cons_succ, run_size hs, Sem.run_pure, Bool.false_eq_true, if_false, hlen]
  rw [if_pos hroom]
  simp only [Sem.run_bind, Bool.not_false, if_true, hnew, Result.andThen_ok, hst, Sem.run_pure]
end
section
variable {base : Nat} {P : Program} {m : M} {h : H} {w : World} {t : Tr V} {nt : Nat} {a : Act} {o : Oper}
theorem append_sound {ty tu : TypeId} {s x : Operand} {as : Array Operand} {ts : Array TypeId} (hr : HR base m h w) (hB : base ≤ w.heap.size) (ht : TR m t nt a.tmps) (ho : o.op = .call { callee := .builtin .append, args := as, argTypes := ts }) (has : as.toList = [s, x]) (hts : ts.toList = [ty, tu])
    {f : H → Tr V → Option (V × H)} (hc : wAppend P ty tu (opX s) (opX x) = .w f) {v : V} {h' : H} (hf : f h t = some (v, h')) : Does P base a o m h w v h' := by
  have has' : as = #[s, x] := by apply Array.ext'; simpa using has
  have hts' : ts = #[ty, tu] := by apply Array.ext'; simpa using hts
  subst has'; subst hts'
  unfold wAppend at hc
  split at hc
  · rename_i el d hd hdu
    split at hc
    · rename_i i z hi hz
      split at hc
      · rename_i hcond
        obtain ⟨hby, hzl⟩ := hcond
        cases hc
        dsimp only at hf
        cases hs : opX s t with
        | none => rw [hs] at hf; cases hf
        | some sv =>
          cases hx : opX x t with
          | none => rw [hs, hx] at hf; cases hf
          | some xv =>
            rw [hs, hx] at hf; dsimp only at hf
            have hsv := opX_VR ht hs
            have hxv := opX_VR ht hx
            have hex : ∀ z w', (Builtin.append_ #[ty, tu] o.type #[a.eval s, a.eval x]).run P w = .ok z w' → (execOp a.eval o).run P w = .ok (.value z) w' :=
              fun z w' hw' => builtin_run (s := Builtin.append_ #[ty, tu] o.type #[a.eval s, a.eval x]) ho (fun consts => by simp [builtin]) hw'
            obtain ⟨zx, hz1, hz2⟩ := run_zero hz
            have hzs : zx.cells.size = i.size := by
              have := (ofVal_VR hz1 m).2.1.1
              simp at this; omega
            cases ha : added i.size h xv with
            | none => rw [ha] at hf; cases hf
            | some nr =>
              obtain ⟨n, r⟩ := nr
              rw [ha] at hf; dsimp only at hf
              obtain ⟨hone, hrl, hlen, rs, hrs, hnew, hnew'⟩ := added_run (P := P) hr hxv ha
              have hrsl : rs.length = n * i.size := by rw [← hrs.1]; exact hrl
              unfold appendTo at hf
              split at hf
              · -- to a nil slice
                cases hse : a.eval s <;> rw [hse] at hsv <;> cases hsv
                split at hf
                · rename_i hn0
                  cases hf
                  subst hn0
                  refine ⟨_, _, m, w, hex (.slice none 0 0) w ?_, .inl rfl, .refl hr, .nils⟩
                  rw [hse]
                  have hsz : sizeOf? P el = some i.size := by unfold sizeOf?; rw [hi]
                  unfold Builtin.append_
                  simp only [Sem.run_bind, run_und hd, run_und hdu, Result.andThen_ok, List.getElem?_toArray, List.getElem?_cons_zero, List.getElem?_cons_succ, run_size hsz, Sem.run_pure, Bool.false_eq_true, if_false, hlen]
                  rw [if_pos (by omega)]
                  simp only [Sem.run_bind, Bool.not_false, if_true, hnew, Result.andThen_ok, Sem.run_pure]
                · rename_i hn0
                  split at hf
                  · rename_i hsmall
                    cases hf
                    obtain ⟨newCap, rest, hcap, hrest, hrun⟩ := grow_run (P := P) (ty0 := o.type) (w := w) (base0 := none) (len := 0) (cap' := 0) (n := n) (x := a.eval x) (olds := []) (news := rs) hd hdu hi hby hz2 hzs (by omega) (by omega) hlen rfl hnew'
                    have hfr : m h.n = none := hr.dom h.n (Nat.le_refl _)
                    have hvr := hrs.mono (Ext.set (m := m) (i := h.n) (w.heap.size, 0, newCap - (0 + n)) hfr)
                    have hb := BR.rowMore hvr hone el true (sz := i.size) (K := n * i.size) (more := newCap - (0 + n)) (xs := rs) (ys := rest) hrsl.symm hrest
                    refine ⟨_, _, _, _, hex _ _ (by rw [hse]; exact hrun), .inl rfl, (SR.new' (w := w.drew) hr.drew hB (e := newCap - (0 + n)) hb).of_drew, ?_⟩
                    rw [Nat.zero_add] at hcap
                    have := VR.sl (m := m.set h.n (w.heap.size, 0, newCap - (0 + n))) (o := 0) (len := n) (cap := n) (ex := false) (cap' := newCap) (M.set_same m h.n _) (by simp; omega)
                    simpa using this
                  · cases hf
              · rename_i b q len cap ex
                cases hse : a.eval s <;> rw [hse] at hsv <;> cases hsv
                case sl0 =>
                  rename_i rb ad sh hm
                  split at hf
                  · rename_i c wr g hb
                    split at hf
                    · rename_i hroom
                      have hn0 : n = 0 := by omega
                      subst hn0
                      have hr0 : r = [] := List.eq_nil_of_length_eq_zero (by rw [hrl, Nat.zero_mul])
                      have hrs0 : rs = [] := List.eq_nil_of_length_eq_zero (by rw [hrsl, Nat.zero_mul])
                      subst hr0 hrs0
                      split at hf
                      · rename_i c' hput
                        cases hf
                        obtain ⟨_, hsr⟩ := hr.store (P := P) hb hm hput hrs rfl
                        refine ⟨_, .slice (some ⟨rb, ad, none⟩) 0 0, m, _, hex _ _ ?_, .inl rfl, hsr, .sl0 hm⟩
                        rw [hse]
                        exact room_run (b0 := ⟨rb, ad, none⟩) (len := 0) (cap' := 0) (n := 0) (x := a.eval x) (news := []) hd hdu hi (Nat.le_refl _) hlen hnew (storeCells_nil ..)
                      · cases hf
                    · rename_i hnoroom
                      split at hf
                      · rename_i hsmall
                        rw [Nat.zero_mul] at hf
                        have hgz : getN c 0 q = some [] := rfl
                        rw [hgz] at hf
                        dsimp only at hf
                        rw [if_pos (show ([] : List V).all one = true from rfl), List.nil_append] at hf
                        have hgrow : ∀ (h1 : H), HR base m h1 w → m h1.n = none →
                            ∃ z m' w', (Builtin.append_ #[ty, tu] o.type #[.slice (some ⟨rb, ad, none⟩) 0 0, a.eval x]).run P w = .ok z w' ∧
                              SR base m h1 w m' (h1.new (.cells (ofL r 0) true (some (i.size, (0 + n) * i.size)))) w' ∧ VR m' (.sl h1.n 0 (0 + n) (0 + n) false) z := by
                          intro h1 hr1 hfr
                          obtain ⟨newCap, rest, hcap, hrest, hrun⟩ := grow_run (P := P) (ty0 := o.type) (w := w) (base0 := some ⟨rb, ad, none⟩) (len := 0) (cap' := 0) (n := n) (x := a.eval x) (olds := []) (news := rs) hd hdu hi hby hz2 hzs hnoroom hsmall hlen (firstCells_zero w.drew) hnew'
                          have hvr := hrs.mono (Ext.set (m := m) (i := h1.n) (w.heap.size, 0, newCap - (0 + n)) hfr)
                          have hb2 := BR.rowMore hvr hone el true (sz := i.size) (K := (0 + n) * i.size) (more := newCap - (0 + n)) (xs := rs) (ys := rest) (by rw [hrsl, Nat.zero_add]) hrest
                          refine ⟨_, _, _, hrun, (SR.new' (w := w.drew) hr1.drew hB (e := newCap - (0 + n)) hb2).of_drew, ?_⟩
                          have := VR.sl (m := m.set h1.n (w.heap.size, 0, newCap - (0 + n))) (o := 0) (len := 0 + n) (cap := 0 + n) (ex := false) (cap' := newCap) (M.set_same m h1.n _) (by simp; omega)
                          simpa using this
                        have hfr : m h.n = none := hr.dom h.n (Nat.le_refl _)
                        split at hf
                        · cases hf
                          obtain ⟨z, m', w', hrun, hsr, hv⟩ := hgrow h hr hfr
                          exact ⟨_, z, m', w', hex _ _ (by rw [hse]; exact hrun), .inl rfl, hsr, hv⟩
                        · split at hf
                          · cases hf
                            have hdead : SR base m h w m (h.put b .dead) w := SR.put hr hb rfl hm trivial (fun _ _ => rfl) rfl rfl rfl rfl
                            obtain ⟨z, m', w', hrun, hsr, hv⟩ := hgrow (h.put b .dead) hdead.hr hfr
                            exact ⟨_, z, m', w', hex _ _ (by rw [hse]; exact hrun), .inl rfl, hdead.trans hsr, hv⟩
                          · cases hf
                        · cases hf
                      · cases hf
                  · cases hf
                rename_i cap' rb sh hm hcap'
                split at hf
                · rename_i c wr g hb
                  split at hf
                  · -- room that the machine knows of
                    rename_i hroom
                    split at hf
                    · rename_i c' hput
                      cases hf
                      obtain ⟨hrun, hsr⟩ := hr.store (P := P) hb hm hput hrs hone
                      have hroom' : len + n ≤ cap' := by rw [hcap']; split <;> omega
                      refine ⟨_, _, m, _, hex _ _ ?_, .inl rfl, hsr, .sl hm hcap'⟩
                      rw [hse]
                      refine room_run hd hdu hi hroom' hlen hnew ?_
                      rw [Addr.add_plain, Nat.add_assoc]; exact hrun
                    · cases hf
                  · rename_i hnoroom
                    split at hf
                    · rename_i hsmall
                      cases hg : getN c (len * i.size) q with
                      | none => rw [hg] at hf; cases hf
                      | some old =>
                        rw [hg] at hf; dsimp only at hf
                        split at hf
                        · rename_i hoone
                          have hall : (old ++ r).all one = true := by rw [List.all_append, hoone, hone]; rfl
                          obtain ⟨olds, hol, hov, _, hold⟩ := hr.cells (P := P) hb hm hg
                          obtain ⟨olds', hol', hov', _, hold'⟩ := hr.drew.cells (P := P) hb hm hg
                          have hgrow : ∀ (hno : ¬ len + n ≤ cap') (h1 : H), HR base m h1 w → m h1.n = none →
                              ∃ z m' w', (Builtin.append_ #[ty, tu] o.type #[.slice (some ⟨rb, sh.1 + q, none⟩) len cap', a.eval x]).run P w = .ok z w' ∧
                                SR base m h1 w m' (h1.new (.cells (ofL (old ++ r) 0) true (some (i.size, (len + n) * i.size)))) w' ∧ VR m' (.sl h1.n 0 (len + n) (len + n) false) z := by
                            intro hno h1 hr1 hfr
                            obtain ⟨newCap, rest, hcap, hrest, hrun⟩ := grow_run (P := P) (ty0 := o.type) (w := w) (base0 := some ⟨rb, sh.1 + q, none⟩) (len := len) (cap' := cap') (n := n) (x := a.eval x) (olds := olds') (news := rs) hd hdu hi hby hz2 hzs hno hsmall hlen hold' hnew'
                            have hvr := (hov'.append hrs).mono (Ext.set (m := m) (i := h1.n) (w.heap.size, 0, newCap - (len + n)) hfr)
                            have hb2 := BR.rowMore hvr hall el true (sz := i.size) (K := (len + n) * i.size) (more := newCap - (len + n)) (ys := rest) (by simp [hol', hrsl, Nat.add_mul]) hrest
                            refine ⟨_, _, _, hrun, (SR.new' (w := w.drew) hr1.drew hB (e := newCap - (len + n)) hb2).of_drew, ?_⟩
                            have := VR.sl (m := m.set h1.n (w.heap.size, 0, newCap - (len + n))) (o := 0) (len := len + n) (cap := len + n) (ex := false) (cap' := newCap) (M.set_same m h1.n _) (by simp; omega)
                            simpa using this
                          split at hf
                          · -- it must grow
                            cases hf
                            have hfr : m h.n = none := hr.dom h.n (Nat.le_refl _)
                            have hno : ¬ len + n ≤ cap' := by rw [hcap', if_pos rfl]; exact hnoroom
                            obtain ⟨z, m', w', hrun, hsr, hv⟩ := hgrow hno h hr hfr
                            exact ⟨_, z, m', w', hex _ _ (by rw [hse]; exact hrun), .inl rfl, hsr, hv⟩
                          · -- it may grow
                            split at hf
                            · rename_i hfull
                              obtain ⟨hgg, hlc⟩ := hfull
                              cases hf
                              subst hlc
                              have hfr : m h.n = none := hr.dom h.n (Nat.le_refl _)
                              by_cases hno : len + n ≤ cap'
                              · -- in place
                                have hse2 : cap' = len + sh.2 := by rw [hcap']; rfl
                                obtain ⟨ar, e, lo, hi', hoH, hcs, hroomB⟩ := hr.blk b _ rb sh hb hm
                                obtain ⟨hsz, hfz⟩ := hroomB _ _ hgg
                                have e1 : (len + n) * i.size = len * i.size + n * i.size := Nat.add_mul _ _ _
                                have e2 : n * i.size + (sh.2 - n) * i.size = sh.2 * i.size := by rw [← Nat.add_mul]; congr 1; omega
                                have hlt : ∀ j, j < rs.length → sh.1 + (q + len * i.size) + j < ar.size := fun j hj => by omega
                                have hrun := run_storeCells_cells (P := P) rb (sh.1 + (q + len * i.size)) rs 0 w
                                  (fun j hj => by
                                    have := hlt j hj
                                    simp only [World.cell?, hoH, Nat.add_zero, Option.isSome_none, Bool.false_eq_true, if_false]
                                    rw [Array.getElem?_eq_getElem this]; rfl)
                                  (fun j hj => by
                                    have := hfz (sh.1 + (q + len * i.size) + j) (by omega) (by omega)
                                    simp only [World.frozen?, hoH, Nat.add_zero]
                                    by_cases hlo : lo ≤ sh.1 + (q + len * i.size) + j
                                    · have h2 : ¬ sh.1 + (q + len * i.size) + j < hi' := fun h => this ⟨hlo, h⟩
                                      simp [h2]
                                    · simp [hlo])
                                  (all_oneCell hrs hone)
                                rw [Nat.add_zero] at hrun
                                obtain ⟨a', g1, g2, g3, g4, g5, g6, g7, g8, g9⟩ := setCells_block rs (sh.1 + (q + len * i.size)) w ar hoH
                                have happ := room_run (P := P) (ty0 := o.type) (b0 := ⟨rb, sh.1 + q, none⟩) hd hdu hi (cap' := cap') hno hlen hnew (by rw [Addr.add_plain, Nat.add_assoc]; exact hrun)
                                have hext := Ext.set (m := m) (i := h.n) (rb, sh.1 + q, sh.2 - n) hfr
                                obtain ⟨holl, hoc⟩ := getN_spec hg
                                have hmove := SR.move (s' := (sh.1 + q, sh.2 - n)) (bn := .cells (ofL (old ++ r) 0) true (some (i.size, (len + n) * i.size))) hr hb rfl hm (by
                                  refine ⟨a', e, lo, hi', g1, fun k v hk => ?_, fun sz K hsk => ?_⟩
                                  · rw [get_ofL, if_pos (Nat.zero_le _), Nat.sub_zero] at hk
                                    have hone' : one v = true := List.all_eq_true.1 hall v (List.mem_of_getElem? hk)
                                    by_cases hkl : k < old.length
                                    · rw [List.getElem?_append_left hkl] at hk
                                      obtain ⟨_, ⟨y, hy, hv⟩, hf⟩ := hcs (q + k) v (hoc k v hk)
                                      refine ⟨hone', ⟨y, ?_, hv.mono hext⟩, by show ¬(lo ≤ sh.1 + q + k ∧ sh.1 + q + k < hi'); rw [Nat.add_assoc]; exact hf⟩
                                      show a'[sh.1 + q + k]? = some y
                                      rw [g3 _ (.inl (by omega)), Nat.add_assoc]; exact hy
                                    · rw [List.getElem?_append_right (by omega), holl] at hk
                                      obtain ⟨y, hy, hv⟩ := hrs.get hk
                                      have hjl : k - len * i.size < rs.length := (List.getElem?_eq_some_iff.1 hy).1
                                      refine ⟨hone', ⟨y, ?_, hv.mono hext⟩, ?_⟩
                                      · have := g4 (k - len * i.size) y hy (hlt _ hjl)
                                        rw [show sh.1 + (q + len * i.size) + (k - len * i.size) = sh.1 + q + k from by omega] at this
                                        exact this
                                      · exact hfz (sh.1 + q + k) (by omega) (by omega)
                                  · cases hsk
                                    refine ⟨?_, fun k h1 h2 => ?_⟩
                                    · show sh.1 + q + (len + n) * i.size + (sh.2 - n) * i.size ≤ a'.size
                                      omega
                                    · have h1' : sh.1 + q ≤ k := h1
                                      have h2' : k < sh.1 + q + (len + n) * i.size + (sh.2 - n) * i.size := h2
                                      exact hfz k (by omega) (by omega)) g5 g6 g7 g8 g9
                                refine ⟨_, _, _, _, hex _ _ (by rw [hse]; exact happ), .inl rfl, hmove, ?_⟩
                                have := VR.sl (m := m.set h.n (rb, sh.1 + q, sh.2 - n)) (o := 0) (len := len + n) (cap := len + n) (ex := false) (cap' := cap') (M.set_same m h.n _) (by simp; omega)
                                simpa using this
                              · have hdead : SR base m h w m (h.put b .dead) w := SR.put hr hb rfl hm trivial (fun _ _ => rfl) rfl rfl rfl rfl
                                obtain ⟨z, m', w', hrun, hsr, hv⟩ := hgrow hno (h.put b .dead) hdead.hr hfr
                                exact ⟨_, z, m', w', hex _ _ (by rw [hse]; exact hrun), .inl rfl, hdead.trans hsr, hv⟩
                            · cases hf
                          · cases hf
                        · cases hf
                    · cases hf
                · cases hf
              · rename_i sz' len g
                generalize hse : a.eval s = y at hsv hex
                cases hsv with
                | rsl hfr =>
                  split at hf
                  · rename_i hn0
                    cases hf
                    subst hn0
                    have hrs0 : rs = [] := List.eq_nil_of_length_eq_zero (by rw [hrsl, Nat.zero_mul])
                    subst hrs0
                    have hfr0 := hfr
                    cases hfr with
                    | rsl0 =>
                      refine ⟨_, .slice none 0 0, m, w, hex _ w ?_, .inl rfl, .refl hr, .rsl hfr0⟩
                      have hsz : sizeOf? P el = some i.size := by unfold sizeOf?; rw [hi]
                      unfold Builtin.append_
                      simp only [Sem.run_bind, run_und hd, run_und hdu, Result.andThen_ok, List.getElem?_toArray, List.getElem?_cons_zero, List.getElem?_cons_succ, run_size hsz, Sem.run_pure, Bool.false_eq_true, if_false, hlen]
                      rw [if_pos (by omega)]
                      simp only [Sem.run_bind, Bool.not_false, if_true, hnew, Result.andThen_ok, Sem.run_pure]
                    | @rsl _ _ _ _ rb q cap p hf1 hn1 he1 hl1 ho1 hx1 =>
                      exact ⟨_, _, m, _, hex _ _ (room_run (b0 := ⟨rb, q, none⟩) (news := []) hd hdu hi hn1 hlen hnew (storeCells_nil _ rb q w)), .inl rfl, .refl hr, .rsl hfr0⟩
                  · rename_i hn0
                    split at hf
                    · rename_i hsz
                      have hsz' := Nat.eq_of_beq_eq_true hsz
                      subst hsz'
                      split at hf
                      · rename_i hcnd
                        obtain ⟨hsmall, hoone, hol⟩ := hcnd
                        cases hf
                        obtain ⟨bb, cap2, olds, rfl, hn, hexc, hfl, hxl, hxv2, _, hload⟩ := hr.rslCells (P := P) hfr (Nat.le_refl _)
                        have hcap2 := hexc rfl
                        subst hcap2
                        have hold : (Builtin.firstCells i.size cap2 (.slice bb cap2 cap2)).run P w.drew = .ok olds.toArray w.drew := by
                          unfold Builtin.firstCells
                          by_cases h0 : cap2 = 0
                          · have hz : cap2 * i.size = 0 := by rw [h0, Nat.zero_mul]
                            have hx0 : olds = [] := List.eq_nil_of_length_eq_zero (by rw [hxl, hz])
                            subst hx0
                            rw [hz]
                            cases bb <;> rfl
                          · obtain ⟨ad, rfl, hl2, _⟩ := hload h0
                            rw [← hxl]
                            exact run_loadCells_list _ _ _ (fun j v hj => by rw [World.cell?_drew]; exact hl2 j v hj)
                        have hall : (flat g cap2 0 ++ r).all one = true := by rw [List.all_append, hoone, hone]; rfl
                        have hfrn : m h.n = none := hr.dom h.n (Nat.le_refl _)
                        obtain ⟨newCap, rest, hcap, hrest, hrun⟩ := grow_run (P := P) (ty0 := o.type) (w := w) (base0 := bb) (len := cap2) (cap' := cap2) (n := n) (x := a.eval x) (olds := olds) (news := rs) hd hdu hi hby hz2 hzs (by omega) hsmall hlen hold hnew'
                        have hvr := (hxv2.append hrs).mono (Ext.set (m := m) (i := h.n) (w.heap.size, 0, newCap - (cap2 + n)) hfrn)
                        have hb2 := BR.rowMore hvr hall el true (sz := i.size) (K := (cap2 + n) * i.size) (more := newCap - (cap2 + n)) (ys := rest) (by simp [hxl, hrsl, Nat.add_mul]) hrest
                        refine ⟨_, _, _, _, hex _ _ hrun, .inl rfl, (SR.new' (w := w.drew) hr.drew hB (e := newCap - (cap2 + n)) hb2).of_drew, ?_⟩
                        have := VR.sl (m := m.set h.n (w.heap.size, 0, newCap - (cap2 + n))) (o := 0) (len := cap2 + n) (cap := cap2 + n) (ex := false) (cap' := newCap) (M.set_same m h.n _) (by simp; omega)
                        simpa using this
                      · cases hf
                    · cases hf
              · cases hf
      · cases hc
    · cases hc
  · cases hc
end
end Go.As
/- Ranges over maps and strings. -/
namespace Go.As
section
variable {base : Nat} {P : Program} {m : M} {h : H} {w : World} {t : Tr V} {nt : Nat} {a : Act} {o : Oper}
theorem mrange_sound {ty : TypeId} {x : Operand} (hr : HR base m h w) (hB : base ≤ w.heap.size) (ht : TR m t nt a.tmps) (ho : o.op = .range ty x) {f : H → Tr V → Option (V × H)} (hc : wRange P ty (opX x) = .w f) {v : V} {h' : H} (hf : f h t = some (v, h')) :
    Does P base a o m h w v h' := by
  have hn : m h.n = none := hr.dom h.n (Nat.le_refl _)
  unfold wRange at hc
  split at hc
  · rename_i hd
    cases hc
    dsimp only at hf
    split at hf
    · rename_i s hx
      cases hf
      have hu := opX_VR ht hx
      cases hxv : a.eval x <;> rw [hxv] at hu <;> cases hu
      refine ⟨_, .pointer (some ⟨w.heap.size, 0, none⟩), m.set h.n (w.heap.size, 0, 0), w.alloc (.stringIter s 0), ?_, .inl rfl, SR.new' hr hB (e := 0) ⟨rfl, rfl⟩, ?_⟩
      · simp only [execOp, ho]
        refine val_run ?_
        unfold Instr.range
        simp only [Sem.run_bind, run_und hd, Result.andThen_ok, hxv, Sem.run_pure, run_newObj_alloc]
      · exact VR.ptr (m := m.set h.n (w.heap.size, 0, 0)) (o := 0) (M.set_same m h.n (w.heap.size, 0, 0))
    · cases hf
  · rename_i k e hd
    cases hc
    dsimp only at hf
    split at hf
    · rename_i hx
      cases hf
      have hu := opX_VR ht hx
      cases hxv : a.eval x <;> rw [hxv] at hu <;> cases hu
      refine ⟨_, .pointer (some ⟨w.heap.size, 0, none⟩), m.set h.n (w.heap.size, 0, 0), w.alloc (.mapIter none 0 #[] 0), ?_, .inl rfl, SR.new' hr hB (e := 0) ⟨rfl, rfl⟩, ?_⟩
      · simp only [execOp, ho]
        refine val_run ?_
        unfold Instr.range
        simp only [Sem.run_bind, run_und hd, Result.andThen_ok, hxv, Sem.run_pure, run_newObj_alloc]
      · exact VR.ptr (m := m.set h.n (w.heap.size, 0, 0)) (o := 0) (M.set_same m h.n (w.heap.size, 0, 0))
    · rename_i b hx
      split at hf
      · rename_i es clock hb
        cases hf
        have hu := opX_VR ht hx
        cases hxv : a.eval x <;> rw [hxv] at hu <;> cases hu
        rename_i r hm
        obtain ⟨ar, har, hlen, _, _⟩ := hr.mapAt hb hm
        have hget : (getObj r).run P w = .ok (.map ar clock) w := by simp only [getObj, Sem.run, har]
        refine ⟨_, .pointer (some ⟨w.heap.size, 0, none⟩), m.set h.n (w.heap.size, 0, 0), w.alloc (.mapIter (some r) clock #[] clock), ?_, .inl rfl, SR.new' hr hB (e := 0) ⟨rfl, Nat.le_refl _, r, Ext.set _ hn _ _ hm, rfl⟩, ?_⟩
        · simp only [execOp, ho]
          refine val_run ?_
          unfold Instr.range
          simp only [Sem.run_bind, run_und hd, Result.andThen_ok, hxv, hget, Sem.run_pure, run_newObj_alloc]
        · exact VR.ptr (m := m.set h.n (w.heap.size, 0, 0)) (o := 0) (M.set_same m h.n (w.heap.size, 0, 0))
      · cases hf
    · cases hf
  · cases hc
theorem iterAt (hr : HR base m h w) {i b since last r : Nat} {seen : List Nat} (hg : h.get i = some (.iter b since seen last)) (hm : m i = some (r, 0, 0)) :
    since ≤ last ∧ ∃ rb, m b = some (rb, 0, 0) ∧ w.heap[r]? = some (.mapIter (some rb) since seen.toArray last) := by
  obtain ⟨_, hl, rb, h1, h2⟩ := hr.blk i _ r (0, 0) hg hm
  exact ⟨hl, rb, h1, h2⟩
theorem next_map (hr : HR base m h w) {i b since last r : Nat} {seen : List Nat} {es : List (Value × V × Nat)} {clock : Nat} (hg : h.get i = some (.iter b since seen last)) (hm : m i = some (r, 0, 0)) (hb : h.get b = some (.map es clock))
    (hold : ∀ e ∈ es, e.2.2 < since) (hcl : since ≤ clock) (ty : TypeId) :
    (leftL es seen = [] ∧ (Instr.next (.pointer (some ⟨r, 0, none⟩)) false ty).run P w = .ok (.tuple #[.bool false]) w) ∨
    ∃ e ∈ leftL es seen, ∃ (w' : World) (x : Value), VR m e.2.1 x ∧ (Instr.next (.pointer (some ⟨r, 0, none⟩)) false ty).run P w = .ok (.tuple #[.bool true, e.1, x]) w' ∧
      SR base m h w m (h.put i (.iter b since (seen ++ [e.2.2]) clock)) w' := by
  obtain ⟨hsl, rb, hmb, hwr⟩ := iterAt hr hg hm
  obtain ⟨ar, har, hlen, _, hrel⟩ := hr.mapAt hb hmb
  have hpair : ∀ k, k < es.length → ∃ e x, es[k]? = some e ∧ ar[k]? = some x ∧ x.key = e.1 ∧ x.born = e.2.2 ∧ VR m e.2.1 x.val := fun k hk =>
    ⟨_, _, List.getElem?_eq_getElem hk, Array.getElem?_eq_getElem (by omega), hrel k _ _ (List.getElem?_eq_getElem hk) (Array.getElem?_eq_getElem (by omega))⟩
  have hold' : ∀ x ∈ ar.toList, x.born < since := by
    intro x hx
    obtain ⟨k, hk, rfl⟩ := List.getElem_of_mem hx
    obtain ⟨e, y, h1, h2, _, h4, _⟩ := hpair k (by simp at hk; omega)
    have : y = ar.toList[k] := by simp at hk ⊢; rw [Array.getElem?_eq_getElem hk] at h2; cases h2; rfl
    rw [← this, h4]
    exact hold e (List.mem_of_getElem? h1)
  have hmemL : ∀ x ∈ (leftOf ar seen.toArray).toList, ∃ e ∈ leftL es seen, x.key = e.1 ∧ x.born = e.2.2 ∧ VR m e.2.1 x.val := by
    intro x hx
    unfold leftOf at hx
    rw [Array.toList_filter, List.mem_filter] at hx
    obtain ⟨hx, hns⟩ := hx
    obtain ⟨k, hk, rfl⟩ := List.getElem_of_mem hx
    obtain ⟨e, y, h1, h2, h3, h4, h5⟩ := hpair k (by simp at hk; omega)
    have : y = ar.toList[k] := by simp at hk ⊢; rw [Array.getElem?_eq_getElem hk] at h2; cases h2; rfl
    rw [this] at h3 h4 h5
    refine ⟨e, ?_, h3, h4, h5⟩
    unfold leftL
    rw [List.mem_filter]
    refine ⟨List.mem_of_getElem? h1, ?_⟩
    rw [h4] at hns
    simpa using hns
  rcases run_next_at (P := P) w ty r rb since last seen.toArray ar clock hwr har hold' hsl with ⟨h0, hrun⟩ | ⟨x, hx, w1, hal, hrun⟩
  · left
    refine ⟨?_, hrun⟩
    unfold leftL
    rw [List.filter_eq_nil_iff]
    intro e he hc
    obtain ⟨k, hk, rfl⟩ := List.getElem_of_mem he
    obtain ⟨e', y, h1, h2, _, h4, _⟩ := hpair k hk
    rw [List.getElem?_eq_getElem hk] at h1; cases h1
    have h0' : leftOf ar seen.toArray = #[] := Array.eq_empty_of_size_eq_zero h0
    unfold leftOf at h0'
    rw [Array.filter_eq_empty_iff] at h0'
    refine h0' y (Array.mem_of_getElem? h2) ?_
    rw [h4]
    simpa using hc
  · right
    obtain ⟨e, he, h3, h4, h5⟩ := hmemL x hx
    refine ⟨e, he, ChangeMaps.setBlock w1 r (.mapIter (some rb) since (seen.toArray.push x.born) clock), x.val, h5, ?_, ?_⟩
    · rw [hrun, h3]
    · have hbr : ∀ w1 : World, HR base m h w1 → SR base m h w1 m (h.put i (.iter b since (seen ++ [e.2.2]) clock)) (ChangeMaps.setBlock w1 r (.mapIter (some rb) since (seen.toArray.push x.born) clock)) := fun w1 hr1 =>
        SR.setObj hr1 hg rfl hm (bn := .iter b since (seen ++ [e.2.2]) clock) ⟨rfl, hcl, rb, hmb, by rw [h4]; simp⟩
      rcases hal with rfl | rfl
      · exact hbr _ hr
      · exact (hbr _ hr.drew).of_drew
theorem next_sound {it : Operand} {st : Bool} (hr : HR base m h w) (ht : TR m t nt a.tmps) (ho : o.op = .next it st) {f : H → Tr V → Option (V × H)} (hc : wNext st (opX it) = .w f) {v : V} {h' : H} (hf : f h t = some (v, h')) :
    Does P base a o m h w v h' := by
  unfold wNext at hc
  cases hc
  dsimp only at hf
  split at hf
  · rename_i i hx
    have hu := opX_VR ht hx
    cases hxv : a.eval it <;> rw [hxv] at hu <;> cases hu
    rename_i r s hm
    have hex : ∀ z w', (Instr.next (.pointer (some ⟨r, s.1 + 0, none⟩)) st o.type).run P w = .ok z w' → (execOp a.eval o).run P w = .ok (.value z) w' := by
      intro z w' hz
      simp only [execOp, ho]
      refine val_run ?_
      rw [hxv]; exact hz
    split at hf
    · rename_i str pos hg
      obtain ⟨hs, hw⟩ := hr.blk i _ r s hg hm
      subst hs
      split at hf
      · rename_i hlt
        cases hf
        have hlt' : pos < str.size := by rw [Nat.blt_eq] at hlt; exact hlt
        have hset : ∀ o', (setObj r o').run P w = .ok () { w with heap := w.heap.setIfInBounds r o' } := fun o' => run_setObj hw (fun c e f he => by cases he)
        refine ⟨_, _, m, _, hex (.tuple #[.bool true, .int .i64 pos, .int .i32 (Utf8.decode str pos).1]) _ ?_, .inl rfl, SR.setObj hr hg rfl hm (o' := .stringIter str (pos + (Utf8.decode str pos).2)) ⟨rfl, rfl⟩, ?_⟩
        · unfold Instr.next
          simp only [getObj, Sem.run_bind, Sem.run, hw, Result.andThen, if_pos hlt', hset]
          rfl
        · exact VRs.tup ((((VRs.nil m).cons (.int _ _)).cons (.int _ _)).cons (.bool true))
      · rename_i hlt
        cases hf
        have hlt' : ¬ pos < str.size := by rw [← Bool.not_eq_true, Nat.blt_eq] at hlt; exact hlt
        refine ⟨_, _, m, w, hex (.tuple #[.bool false]) _ ?_, .inl rfl, .refl hr, ?_⟩
        · unfold Instr.next
          simp only [getObj, Sem.run_bind, Sem.run, hw, Result.andThen, if_neg hlt']
          rfl
        · exact VRs.tup (((VRs.nil m).cons (.bool false)))
    · rename_i hg
      obtain ⟨hs, hw⟩ := hr.blk i _ r s hg hm
      subst hs
      cases hf
      refine ⟨_, _, m, w, hex (.tuple #[.bool false]) _ ?_, .inl rfl, .refl hr, ?_⟩
      · unfold Instr.next
        simp only [getObj, Sem.run_bind, Sem.run, hw, Result.andThen]
        rfl
      · exact VRs.tup (((VRs.nil m).cons (.bool false)))
    · rename_i b since seen last hg
      have hs : s = (0, 0) := (hr.blk i _ r s hg hm).1
      subst hs
      split at hf
      · rename_i es clock hb
        split at hf
        · rename_i hall hleft
          cases hf
          have hold : ∀ e ∈ es, e.2.2 < since := fun e he => by have := List.all_eq_true.1 hall e he; rw [Nat.blt_eq] at this; exact this
          obtain ⟨hsl, rb, hmb, hwr⟩ := iterAt hr hg hm
          obtain ⟨ar, har, hlen, _, hrel⟩ := hr.mapAt hb hmb
          have hold' : ∀ x ∈ ar.toList, x.born < since := by
            intro x hx
            obtain ⟨k, hk, rfl⟩ := List.getElem_of_mem hx
            simp at hk
            have hke : k < es.length := by omega
            have := (hrel k es[k] ar[k] (List.getElem?_eq_getElem hke) (Array.getElem?_eq_getElem hk)).2.1
            simp only [Array.getElem_toList]
            rw [this]
            exact hold _ (List.getElem_mem _)
          rcases run_next_at (P := P) w o.type r rb since last seen.toArray ar clock hwr har hold' hsl with ⟨h0, hrun⟩ | ⟨x, hx, w1, hal, hrun⟩
          · exact ⟨_, _, m, w, hex _ _ hrun, .inl rfl, .refl hr, VRs.tup (((VRs.nil m).cons (.bool false)))⟩
          · exfalso
            unfold leftOf at hx
            rw [Array.toList_filter, List.mem_filter] at hx
            obtain ⟨hx, hns⟩ := hx
            obtain ⟨k, hk, rfl⟩ := List.getElem_of_mem hx
            simp at hk
            have hke : k < es.length := by omega
            have hbn := (hrel k es[k] ar[k] (List.getElem?_eq_getElem hke) (Array.getElem?_eq_getElem hk)).2.1
            have : es[k] ∈ leftL es seen := by
              unfold leftL
              rw [List.mem_filter]
              refine ⟨List.getElem_mem _, ?_⟩
              simp only [Array.getElem_toList] at hns
              rw [hbn] at hns
              simpa using hns
            rw [hleft] at this
            cases this
        · rename_i en hall hle hleft
          split at hf
          · rename_i kv hkv
            cases hf
            have hold : ∀ e ∈ es, e.2.2 < since := fun e he => by have := List.all_eq_true.1 hall e he; rw [Nat.blt_eq] at this; exact this
            rcases next_map (P := P) hr hg hm hb hold (Nat.le_of_ble_eq_true hle) o.type with ⟨h0, _⟩ | ⟨e, he, w', x, hvx, hrun, hsr⟩
            · rw [hleft] at h0; cases h0
            · rw [hleft, List.mem_singleton] at he
              subst he
              exact ⟨_, _, m, w', hex _ _ hrun, .inl rfl, hsr, VRs.tup ((((VRs.nil m).cons hvx).cons ((ofVal_VR hkv m).1)).cons (.bool true))⟩
          · cases hf
        · cases hf
      · cases hf
    · cases hf
  · cases hf
theorem entry_sound {it : Operand} (hr : HR base m h w) (ht : TR m t nt a.tmps) (ho : o.op = .entry it) {f : H → Tr V → Option V} (hc : rEntry (opX it) = .r f) {v : V} (hf : f h t = some v) :
    ∃ z, VR m v z ∧ (execOp a.eval o).run P w = .ok (.value z) w := by
  unfold rEntry at hc
  cases hc
  dsimp only at hf
  split at hf
  · rename_i i hx
    have hu := opX_VR ht hx
    cases hxv : a.eval it <;> rw [hxv] at hu <;> cases hu
    rename_i r s hm
    split at hf
    · rename_i b since seen last hg
      have hs : s = (0, 0) := (hr.blk i _ r s hg hm).1
      subst hs
      obtain ⟨hsl, rb, hmb, hwr⟩ := iterAt hr hg hm
      split at hf
      · rename_i stamp es clock hlast hb
        obtain ⟨ar, har, hlen, _, hrel⟩ := hr.mapAt hb hmb
        split at hf
        · rename_i en hcl hfind
          have hcl' := Nat.eq_of_beq_eq_true hcl
          subst hcl'
          split at hf
          · rename_i kv hkv
            cases hf
            have hkey : ∀ (l : List (Value × V × Nat)) (l' : List MapEntry), l.length = l'.length → (∀ (k : Nat) (e : Value × V × Nat) (x : MapEntry), l[k]? = some e → l'[k]? = some x → x.key = e.1 ∧ x.born = e.2.2 ∧ VR m e.2.1 x.val) →
                l.find? (fun e => Nat.beq e.2.2 stamp) = some en → ∃ x, l'.find? (fun e => e.born == stamp) = some x ∧ x.key = en.1 ∧ VR m en.2.1 x.val := by
              intro l
              induction l with
              | nil => intro l' _ _ h; cases h
              | cons e l ih =>
                intro l' hl hrl hfd
                cases l' with
                | nil => simp at hl
                | cons x l' =>
                  obtain ⟨g1, g2, g3⟩ := hrl 0 e x rfl rfl
                  rw [List.find?_cons] at hfd ⊢
                  cases hbq : Nat.beq e.2.2 stamp with
                  | true =>
                    rw [hbq] at hfd
                    cases hfd
                    have : (x.born == stamp) = true := by rw [g2, beq_iff_eq]; exact Nat.eq_of_beq_eq_true hbq
                    rw [this]
                    exact ⟨x, rfl, g1, g3⟩
                  | false =>
                    rw [hbq] at hfd
                    have : (x.born == stamp) = false := by
                      rw [g2, beq_eq_false_iff_ne]; intro hc; rw [hc, Nat.beq_refl] at hbq; cases hbq
                    rw [this]
                    exact ih l' (by simpa using hl) (fun k e' x' h1 h2 => hrl (k + 1) e' x' (by simpa using h1) (by simpa using h2)) hfd
            obtain ⟨x, hxf, hxk, hxv2⟩ := hkey es ar.toList (by simpa using hlen) (fun k e x h1 h2 => hrel k e x h1 (by simpa using h2)) hfind
            refine ⟨.tuple #[x.key, x.val], VRs.tup (((VRs.nil m).cons hxv2).cons (by rw [hxk]; exact (ofVal_VR hkv m).1)), ?_⟩
            simp only [execOp, ho]
            refine val_run ?_
            have hback : seen.toArray.back? = some stamp := by
              rw [Array.back?_eq_getElem?, List.getLast?_eq_getElem?] at *
              simpa using hlast
            have hf2 : ar.find? (fun e => e.born == stamp) = some x := by rw [← Array.find?_toList]; exact hxf
            unfold Instr.entry
            rw [hxv]
            simp only [getObj, Sem.run_bind, Sem.run, hwr, har, Result.andThen, hback, bne_self_eq_false, Bool.false_eq_true, if_false, hf2]
            rfl
          · cases hf
        · cases hf
      · cases hf
    · cases hf
  · cases hf
end
end Go.As
/- An operation, whichever it is. -/
namespace Go.As
section
variable {base : Nat} {P : Program} {m : M} {h : H} {w : World} {t : Tr V} {nt : Nat} {a : Act} {o : Oper}
theorem comp_q (ht : TR m t nt a.tmps) {f : Tr V → Option V} (hc : compOp P o.op = .q f) {v : V} (hf : f t = some v) : ∀ w, ∃ z, VR m v z ∧ (execOp a.eval o).run P w = .ok (.value z) w := by
  have hg : Gives P a o m v → ∀ w, ∃ z, VR m v z ∧ (execOp a.eval o).run P w = .ok (.value z) w := fun ⟨z, hz, hr⟩ w => ⟨z, hz, hr w⟩
  cases hop : o.op <;> rw [hop] at hc <;> simp only [compOp] at hc
  case move x => cases hc; exact hg ⟨_, opX_VR ht hf, fun w => by simp only [execOp, hop]; rfl⟩
  case assign x => cases hc; exact hg ⟨_, opX_VR ht hf, fun w => by simp only [execOp, hop]; rfl⟩
  case pick => exact hg (pick_sound ht hop hc hf)
  case build => exact hg (build_sound ht hop hc hf)
  case nilCheck => exact hg (nil_sound ht hop hc hf)
  case binOp => exact bin_sound ht hop hc hf
  case unOp => exact hg (un_sound ht hop hc hf)
  case convert => exact hg (conv_sound ht hop hc hf)
  case makeFunc fn p q => cases fn <;> first | exact hg (func_sound ht hop hc hf) | cases hc
  case slice => exact hg (slice_sound ht hop hc hf)
  case fieldAddr => exact hg (fieldAddr_sound ht hop hc hf)
  case field => exact field_sound ht hop hc hf
  case indexAddr => exact hg (indexAddr_sound ht hop hc hf)
  case index => exact index_sound ht hop hc hf
  case extract => exact hg (extract_sound ht hop hc hf)
  case load => unfold rLoad at hc; (repeat' split at hc); all_goals cases hc
  case lookup => unfold rLookup at hc; (repeat' split at hc); all_goals cases hc
  case alloc => unfold mAlloc at hc; (repeat' split at hc); all_goals cases hc
  case box => cases hc
  case buildSlice => unfold mBuildSlice at hc; (repeat' split at hc); all_goals cases hc
  case makeMap _ r => cases r <;> cases hc
  case makeSlice => unfold mSlice at hc; (repeat' split at hc); all_goals cases hc
  case range => unfold wRange at hc; (repeat' split at hc); all_goals cases hc
  case store => unfold wStore at hc; (repeat' split at hc); all_goals cases hc
  case mapUpdate => unfold wMapUpdate at hc; (repeat' split at hc); all_goals cases hc
  case mapEntry => unfold wMapEntry at hc; (repeat' split at hc); all_goals cases hc
  case call c =>
    obtain ⟨callee, args, ts⟩ := c
    cases callee with
    | value g => cases hc
    | invoke r n => cases hc
    | builtin b =>
      dsimp only at hc
      unfold compB at hc
      split at hc
      · unfold rLen at hc; repeat' split at hc
        all_goals cases hc
      · rename_i x y _ h1; exact hg (max_sound ht hop h1 hc hf)
      · rename_i x y _ h1; exact hg (min_sound ht hop h1 hc hf)
      · rename_i x y z _ h1; exact hg (max3_sound ht hop h1 hc hf)
      · rename_i x y z _ h1; exact hg (min3_sound ht hop h1 hc hf)
      · unfold wDelete at hc; repeat' split at hc
        all_goals cases hc
      · unfold wClear at hc; repeat' split at hc
        all_goals cases hc
      · unfold wCopy at hc; repeat' split at hc
        all_goals cases hc
      · unfold wAppend at hc; repeat' split at hc
        all_goals cases hc
      · cases hc
  all_goals cases hc
theorem comp_r (hr : HR base m h w) (ht : TR m t nt a.tmps) {f : H → Tr V → Option V} (hc : compOp P o.op = .r f) {v : V} (hf : f h t = some v) : ∃ z, VR m v z ∧ (execOp a.eval o).run P w = .ok (.value z) w := by
  cases hop : o.op <;> rw [hop] at hc <;> simp only [compOp] at hc
  case load => exact load_sound hr ht hop hc hf
  case lookup => exact lookup_sound hr ht hop hc hf
  case entry => exact entry_sound hr ht hop hc hf
  case build => unfold qBuild at hc; (repeat' split at hc); all_goals cases hc
  case makeFunc fn p q => cases fn <;> cases hc
  case slice => unfold qSlice at hc; (repeat' split at hc); all_goals cases hc
  case fieldAddr => unfold qFieldAddr at hc; (repeat' split at hc); all_goals cases hc
  case field => unfold qField at hc; (repeat' split at hc); all_goals cases hc
  case indexAddr => unfold qIndexAddr at hc; (repeat' split at hc); all_goals cases hc
  case index => unfold qIndex at hc; (repeat' split at hc); all_goals cases hc
  case alloc => unfold mAlloc at hc; (repeat' split at hc); all_goals cases hc
  case buildSlice => unfold mBuildSlice at hc; (repeat' split at hc); all_goals cases hc
  case makeMap _ r => cases r <;> cases hc
  case makeSlice => unfold mSlice at hc; (repeat' split at hc); all_goals cases hc
  case store => unfold wStore at hc; (repeat' split at hc); all_goals cases hc
  case mapUpdate => unfold wMapUpdate at hc; (repeat' split at hc); all_goals cases hc
  case mapEntry => unfold wMapEntry at hc; (repeat' split at hc); all_goals cases hc
  case range => unfold wRange at hc; (repeat' split at hc); all_goals cases hc
  case call c =>
    obtain ⟨callee, args, ts⟩ := c
    cases callee with
    | value g => cases hc
    | invoke r n => cases hc
    | builtin b =>
      dsimp only at hc
      unfold compB at hc
      split at hc
      · rename_i x ty h1 h2; exact len_sound hr ht hop h1 h2 hc hf
      · cases hc
      · cases hc
      · cases hc
      · cases hc
      · unfold wDelete at hc; repeat' split at hc
        all_goals cases hc
      · unfold wClear at hc; repeat' split at hc
        all_goals cases hc
      · unfold wCopy at hc; repeat' split at hc
        all_goals cases hc
      · unfold wAppend at hc; repeat' split at hc
        all_goals cases hc
      · cases hc
  all_goals cases hc
theorem comp_m (ht : TR m t nt a.tmps) {n : Nat} (hn : m n = none) {f : Tr V → Option (Blk × (Nat → V))} (hc : compOp P o.op = .m f) {b : Blk} {g : Nat → V} (hf : f t = some (b, g)) : Makes P a o m w n b (g n) := by
  cases hop : o.op <;> rw [hop] at hc <;> simp only [compOp] at hc
  case alloc => exact alloc_sound hop hn hc hf
  case box => exact box_sound ht hop hn hc hf
  case buildSlice => exact buildSlice_sound ht hop hn hc hf
  case makeMap _ r => cases r with | none => exact map_sound hop hc hf | some r => cases hc
  case makeSlice => exact makeSlice_sound ht hop hn hc hf
  case build => unfold qBuild at hc; (repeat' split at hc); all_goals cases hc
  case makeFunc fn p q => cases fn <;> cases hc
  case slice => unfold qSlice at hc; (repeat' split at hc); all_goals cases hc
  case fieldAddr => unfold qFieldAddr at hc; (repeat' split at hc); all_goals cases hc
  case field => unfold qField at hc; (repeat' split at hc); all_goals cases hc
  case indexAddr => unfold qIndexAddr at hc; (repeat' split at hc); all_goals cases hc
  case index => unfold qIndex at hc; (repeat' split at hc); all_goals cases hc
  case load => unfold rLoad at hc; (repeat' split at hc); all_goals cases hc
  case lookup => unfold rLookup at hc; (repeat' split at hc); all_goals cases hc
  case store => unfold wStore at hc; (repeat' split at hc); all_goals cases hc
  case mapUpdate => unfold wMapUpdate at hc; (repeat' split at hc); all_goals cases hc
  case mapEntry => unfold wMapEntry at hc; (repeat' split at hc); all_goals cases hc
  case range => unfold wRange at hc; (repeat' split at hc); all_goals cases hc
  case call c =>
    obtain ⟨callee, args, ts⟩ := c
    cases callee with
    | value g => cases hc
    | invoke r n => cases hc
    | builtin b =>
      dsimp only at hc
      unfold compB at hc
      split at hc
      · unfold rLen at hc; repeat' split at hc
        all_goals cases hc
      · cases hc
      · cases hc
      · cases hc
      · cases hc
      · unfold wDelete at hc; repeat' split at hc
        all_goals cases hc
      · unfold wClear at hc; repeat' split at hc
        all_goals cases hc
      · unfold wCopy at hc; repeat' split at hc
        all_goals cases hc
      · unfold wAppend at hc; repeat' split at hc
        all_goals cases hc
      · cases hc
  all_goals cases hc
theorem comp_w (hr : HR base m h w) (hB : base ≤ w.heap.size) (ht : TR m t nt a.tmps) {f : H → Tr V → Option (V × H)} (hc : compOp P o.op = .w f) {v : V} {h' : H} (hf : f h t = some (v, h')) : Does P base a o m h w v h' := by
  cases hop : o.op <;> rw [hop] at hc <;> simp only [compOp] at hc
  case store => exact store_sound hr ht hop hc hf
  case mapUpdate => exact mapUpdate_sound hr ht hop hc hf
  case mapEntry => exact mapEntry_sound hr ht hop hc hf
  case entryStore => exact entryStore_sound hr ht hop hc hf
  case range => exact mrange_sound hr hB ht hop hc hf
  case next => exact next_sound hr ht hop hc hf
  case alloc => unfold mAlloc at hc; (repeat' split at hc); all_goals cases hc
  case buildSlice => unfold mBuildSlice at hc; (repeat' split at hc); all_goals cases hc
  case makeMap _ r => cases r <;> cases hc
  case makeSlice => unfold mSlice at hc; (repeat' split at hc); all_goals cases hc
  case build => unfold qBuild at hc; (repeat' split at hc); all_goals cases hc
  case makeFunc fn p q => cases fn <;> cases hc
  case slice => unfold qSlice at hc; (repeat' split at hc); all_goals cases hc
  case fieldAddr => unfold qFieldAddr at hc; (repeat' split at hc); all_goals cases hc
  case field => unfold qField at hc; (repeat' split at hc); all_goals cases hc
  case indexAddr => unfold qIndexAddr at hc; (repeat' split at hc); all_goals cases hc
  case index => unfold qIndex at hc; (repeat' split at hc); all_goals cases hc
  case load => unfold rLoad at hc; (repeat' split at hc); all_goals cases hc
  case lookup => unfold rLookup at hc; (repeat' split at hc); all_goals cases hc
  case call c =>
    obtain ⟨callee, args, ts⟩ := c
    cases callee with
    | value g => cases hc
    | invoke r n => cases hc
    | builtin b =>
      dsimp only at hc
      unfold compB at hc
      split at hc
      · unfold rLen at hc; repeat' split at hc
        all_goals cases hc
      · cases hc
      · cases hc
      · cases hc
      · cases hc
      · rename_i x k ty ty2 h1 h2; exact delete_sound hr ht hop h1 h2 hc hf
      · rename_i x ty h1 h2; exact clear_sound hr ht hop h1 h2 hc hf
      · rename_i d s ty ty2 h1 h2; exact copy_sound hr ht hop h1 h2 hc hf
      · rename_i s x ty tu h1 h2; exact append_sound hr hB ht hop h1 h2 hc hf
      · cases hc
  all_goals cases hc
theorem comp_c {g : X} {as : Tr V → Option (List V)} (hc : compOp P o.op = .c g as) : ∃ (gop : Operand) (args : Array Operand) (ts : Array TypeId), o.op = .call { callee := .value gop, args := args, argTypes := ts } ∧ g = opX gop ∧ as = evs args.toList := by
  cases hop : o.op <;> rw [hop] at hc <;> simp only [compOp] at hc
  case call c =>
    obtain ⟨callee, args, ts⟩ := c
    cases callee with
    | value g => cases hc; exact ⟨_, _, _, rfl, rfl, rfl⟩
    | invoke r n => cases hc
    | builtin b =>
      dsimp only at hc
      unfold compB at hc
      split at hc
      · unfold rLen at hc; repeat' split at hc
        all_goals cases hc
      · cases hc
      · cases hc
      · cases hc
      · cases hc
      · unfold wDelete at hc; repeat' split at hc
        all_goals cases hc
      · unfold wClear at hc; repeat' split at hc
        all_goals cases hc
      · unfold wCopy at hc; repeat' split at hc
        all_goals cases hc
      · unfold wAppend at hc; repeat' split at hc
        all_goals cases hc
      · cases hc
  case alloc => unfold mAlloc at hc; (repeat' split at hc); all_goals cases hc
  case buildSlice => unfold mBuildSlice at hc; (repeat' split at hc); all_goals cases hc
  case makeMap _ r => cases r <;> cases hc
  case makeSlice => unfold mSlice at hc; (repeat' split at hc); all_goals cases hc
  case build => unfold qBuild at hc; (repeat' split at hc); all_goals cases hc
  case makeFunc fn p q => cases fn <;> cases hc
  case slice => unfold qSlice at hc; (repeat' split at hc); all_goals cases hc
  case fieldAddr => unfold qFieldAddr at hc; (repeat' split at hc); all_goals cases hc
  case field => unfold qField at hc; (repeat' split at hc); all_goals cases hc
  case indexAddr => unfold qIndexAddr at hc; (repeat' split at hc); all_goals cases hc
  case index => unfold qIndex at hc; (repeat' split at hc); all_goals cases hc
  case load => unfold rLoad at hc; (repeat' split at hc); all_goals cases hc
  case lookup => unfold rLookup at hc; (repeat' split at hc); all_goals cases hc
  case range => unfold wRange at hc; (repeat' split at hc); all_goals cases hc
  case store => unfold wStore at hc; (repeat' split at hc); all_goals cases hc
  case mapUpdate => unfold wMapUpdate at hc; (repeat' split at hc); all_goals cases hc
  case mapEntry => unfold wMapEntry at hc; (repeat' split at hc); all_goals cases hc
  all_goals cases hc
end
end Go.As
/- Operations one after another: what is asked of the machine's self, and regions that do not draw their order. -/
namespace Go.As
abbrev rf (rr : Option Nat) : Fence := { Fence.wide with round := rr }
def RO (m : M) : Option Nat → Option Nat → Prop
  | none, none => True
  | some l, some r => m l = some (r, 0, 0)
  | _, _ => False
theorem RO.mono {m m' : M} (e : Ext m m') {ro rr : Option Nat} (h : RO m ro rr) : RO m' ro rr := by
  cases ro <;> cases rr <;> first | trivial | exact h.elim | exact e _ _ h
inductive MK (Z : Option Nat) (m : M) : List Nat → List Deferred → Prop
  | nil : MK Z m [] []
  | cons {i r : Nat} {l : List Nat} {ds : List Deferred} (hm : m i = some (r, 0, 0)) (hz : ∀ n, Z = some n → n ≤ r) (hn : ∀ d ∈ ds, d ≠ { target := .collected r, args := #[] }) (h : MK Z m l ds) : MK Z m (i :: l) ({ target := .collected r, args := #[] } :: ds)
    | skip {r : Nat} {l : List Nat} {ds : List Deferred} (hz : ∃ n, Z = some n ∧ n ≤ r) (hf : m.fz r = some none) (hn : ∀ d ∈ ds, d ≠ { target := .collected r, args := #[] }) (h : MK Z m l ds) : MK Z m l ({ target := .collected r, args := #[] } :: ds)
theorem MK.mono {Z : Option Nat} {m m' : M} (e : Ext m m') {l : List Nat} {ds : List Deferred} (h : MK Z m l ds) : MK Z m' l ds := by
  induction h with
  | nil => exact .nil
  | cons hm hz hn _ ih => exact .cons (e _ _ hm) hz hn ih
  | skip hz hf hn _ ih => exact .skip hz (e.fz _ _ hf) hn ih
theorem MK.size {Z : Option Nat} {base : Nat} {m : M} {h : H} {w : World} (hr : HR base m h w) {l : List Nat} {ds : List Deferred} (hm : MK Z m l ds) : ∀ d ∈ ds, d ≠ { target := .collected w.heap.size, args := #[] } := by
  induction hm with
  | nil => intro d hd; cases hd
  | cons hm _ _ _ ih =>
    intro d hd
    rcases List.mem_cons.1 hd with rfl | hd
    · intro hc
      have := hr.rng _ _ _ hm
      injection hc with h1 h2
      injection h1 with h1
      omega
    · exact ih d hd
  | skip _ hf _ _ ih =>
    intro d hd
    rcases List.mem_cons.1 hd with rfl | hd
    · intro hc
      have := (hr.frz _ _ hf).lt
      injection hc with h1 h2
      injection h1 with h1
      omega
    · exact ih d hd
def Ex.to : Ex → Exit
  | .normal => .normal
  | .exit id => .exit id
  | .ret => .ret
structure At (Z : Option Nat) (base : Nat) (m : M) (s : St) (a : Act) (w : World) : Prop where
  hr : HR base m s.h w
  base : base ≤ w.heap.size
  tr : TR m s.t s.nt a.tmps
  mks : MK Z m s.marks a.defers
def To (Z : Option Nat) (base : Nat) (m : M) (s : St) (w : World) (s' : St) (a' : Act) (w' : World) : Prop :=
  ∃ m', SR base m s.h w m' s'.h w' ∧ TR m' s'.t s'.nt a'.tmps ∧ MK Z m' s'.marks a'.defers
theorem To.at {Z : Option Nat} {base : Nat} {m : M} {s : St} {w : World} {s' : St} {a' : Act} {w' : World} {a : Act} (h : At Z base m s a w) (t : To Z base m s w s' a' w') : ∃ m', SR base m s.h w m' s'.h w' ∧ At Z base m' s' a' w' := by
  obtain ⟨m', h1, h2, h3⟩ := t
  exact ⟨m', h1, ⟨h1.hr, Nat.le_trans h.base h1.size, h2, h3⟩⟩
def PostC (Z : Option Nat) (base : Nat) (m : M) (s : St) (w : World) (ex : Ex) (s' : St) : Exit → Act → World → Prop :=
  fun e a' w' => e = ex.to ∧ To Z base m s w s' a' w'
def PostV (base : Nat) (m : M) (h : H) (w : World) (v : V) (h' : H) : Ending → World → Prop :=
  fun e w' => ∃ m' x, e = .returned x ∧ SR base m h w m' h' w' ∧ VR m' v x
structure Sound (P : Program) (base : Nat) (k : Nat) (sf : Rq → Option Rs) : Prop where
  code : ∀ (ro : Option Nat) (c : Code) (s : St) (ex : Ex) (s' : St), sf (.code ro c s) = some (.out ex s') → ∀ (m : M) (a : Act) (w : World) (rr : Option Nat), At none base m s a w → RO m ro rr → c.wpIn (rf rr) 0 P (PostC none base m s w ex s') a w
  loop : ∀ (ro : Option Nat) (c : Code) (s : St) (ex : Ex) (s' : St), sf (.code ro (.loop c) s) = some (.out ex s') → ∀ (m : M) (a : Act) (w : World) (rr : Option Nat), At none base m s a w → RO m ro rr → Code.roundsIn (rf rr) 0 P c (PostC none base m s w ex s') k a w
  call : ∀ (f : FuncId) (args : List V) (h : H) (v : V) (h' : H), sf (.call f args h) = some (.val v h') → ∀ (m : M) (w : World) (xs : List Value), HR base m h w → base ≤ w.heap.size → VRs m args xs →
    (∃ fn, P.funcs[f]? = some fn ∧ fn.body.isSome = true ∧ (fn.name == "runtime.NumGoroutine") = false) ∧ CallsIn Fence.wide 0 P f xs.toArray w (PostV base m h w v h')
  yld : ∀ (l : Nat) (args : List V) (h : H) (v : V) (h' : H), sf (.yld l args h) = some (.val v h') → ∀ (m : M) (w : World) (xs : List Value) (r : Nat), HR base m h w → base ≤ w.heap.size → m l = some (r, 0, 0) → VRs m args xs →
    ∃ f tmps assign body, (Instr.yield r xs.toArray).run P w = .ok (.round r f tmps assign body) w ∧ RoundIn Fence.wide 0 P r f tmps assign body w (PostV base m h w v h')
section
variable {Z : Option Nat} {base kf : Nat} {P : Program} {self : Rq → Option Rs}
theorem put_eq (t : Tr V) (nt : Nat) (marks : List Nat) (h : H) (d : Option Nat) (v : V) : put t nt marks h d v = match d with
    | none => some (v, ⟨t, nt, marks, h⟩)
    | some d => if d < nt then some (v, ⟨t.set d v, nt, marks, h⟩) else none := by
  unfold put
  rw [force2_eq]
  cases d with
  | none => rfl
  | some d =>
    dsimp only
    by_cases hd : d < nt
    · have h1 : Nat.blt d nt = true := by rw [Nat.blt_eq]; exact hd
      rw [if_pos hd, h1, strictT_eq]
    · rw [if_neg hd]
      have : Nat.blt d nt = false := by rw [Bool.eq_false_iff]; intro hc; rw [Nat.blt_eq] at hc; exact hd hc
      rw [this]
theorem put_TR {m : M} {t : Tr V} {nt : Nat} {marks : List Nat} {h : H} {d : Option Nat} {v v' : V} {s' : St} {a : Act} {x : Value} (hp : put t nt marks h d v = some (v', s')) (ht : TR m t nt a.tmps) (hv : VR m v x) :
    v' = v ∧ s'.h = h ∧ s'.marks = marks ∧ s'.nt = nt ∧ TR m s'.t s'.nt (a.put d x).tmps ∧ (a.put d x).defers = a.defers := by
  rw [put_eq] at hp
  cases d with
  | none => cases hp; exact ⟨rfl, rfl, rfl, rfl, ht, rfl⟩
  | some d =>
    dsimp only at hp
    split at hp
    · rename_i hd
      cases hp
      exact ⟨rfl, rfl, rfl, rfl, ht.set hd hv, rfl⟩
    · cases hp
theorem wanted_sound {ops : Array Oper} {o : Oper} {m : M} {t : Tr V} {nt : Nat} {a : Act} (ht : TR m t nt a.tmps) {b : Bool} (hw : wanted t (compO P ops o).g = some b) (hg : o.guard = none ∨ (compO P ops o).g ≠ none) : Region.wanted o (yielded ops a.tmps) = b := by
  unfold compO at hw hg
  unfold Region.wanted
  cases hgd : o.guard with
  | none => rw [hgd] at hw; simp only [wanted] at hw; cases hw; rfl
  | some jw =>
    obtain ⟨j, want⟩ := jw
    rw [hgd] at hw hg
    dsimp only at hw hg ⊢
    unfold yielded
    cases hj : ops[j]? with
    | none => rw [hj] at hg; rcases hg with hg | hg <;> first | cases hg | exact absurd rfl hg
    | some oj =>
      rw [hj] at hw hg
      dsimp only at hw hg ⊢
      cases hd : oj.dst with
      | none => rw [hd] at hg; rcases hg with hg | hg <;> first | cases hg | exact absurd rfl hg
      | some d =>
        rw [hd] at hw
        simp only [wanted] at hw
        simp only [Option.bind_some, hd]
        cases ht' : t.get d with
        | none => rw [ht'] at hw; cases hw
        | some u =>
          rw [ht'] at hw
          obtain ⟨x, hx, hv⟩ := ht.2 d u ht'
          rw [hx]
          cases hv <;> simp only [Option.some.injEq] at hw <;> subst hw <;> first | rfl | (rename_i hh; cases hh <;> rfl)
theorem compO_a {ops : Array Oper} {o : Oper} (h : o.guard = none ∨ (compO P ops o).g ≠ none) : (compO P ops o).a = compOp P o.op ∧ (compO P ops o).d = o.dst := by
  unfold compO at h ⊢
  cases hg : o.guard with
  | none => exact ⟨rfl, rfl⟩
  | some jw =>
    obtain ⟨j, want⟩ := jw
    rw [hg] at h
    dsimp only at h ⊢
    cases hj : ops[j]? with
    | none => rw [hj] at h; rcases h with h | h <;> first | cases h | exact absurd rfl h
    | some oj =>
      rw [hj] at h
      dsimp only at h ⊢
      cases hd : oj.dst with
      | none => rw [hd] at h; rcases h with h | h <;> first | cases h | exact absurd rfl h
      | some d => exact ⟨rfl, rfl⟩
theorem doOp_guard {ops : Array Oper} {o : Oper} {s : St} {r : V × St} (h : doOp self (compO P ops o) s = some r) : o.guard = none ∨ (compO P ops o).g ≠ none := by
  cases hg : o.guard with
  | none => exact .inl rfl
  | some jw =>
    right
    obtain ⟨j, want⟩ := jw
    intro hn
    obtain ⟨t, nt, marks, hh⟩ := s
    have hbad : compO P ops o = ⟨none, none, .bad⟩ := by
      unfold compO at hn ⊢
      rw [hg] at hn ⊢
      dsimp only at hn ⊢
      cases hj : ops[j]? with
      | none => rfl
      | some oj =>
        rw [hj] at hn
        dsimp only at hn ⊢
        cases hd : oj.dst with
        | none => rfl
        | some d => rw [hd] at hn; cases hn
    rw [hbad] at h
    cases h
theorem not_defer {o : Oper} (h : compOp P o.op ≠ .bad) : ∀ c, o.op ≠ .defer c := by
  intro c hc; rw [hc] at h; exact h rfl
theorem act_sound (hS : Sound P base kf self) {o : Oper} {s : St} {v : V} {s' : St} (hact : act self (compOp P o.op) o.dst s = some (v, s')) {m : M} {a : Act} {w : World} (hat : At Z base m s a w) {rr : Option Nat} {K : Act → World → Prop} {Q : Exit → Act → World → Prop}
    (hK : ∀ m' x w', SR base m s.h w m' s'.h w' → VR m' v x → TR m' s'.t s'.nt (a.put o.dst x).tmps → MK Z m' s'.marks (a.put o.dst x).defers → K (a.put o.dst x) w') : o.wpIn (rf rr) 0 P a w K Q := by
  obtain ⟨t, nt, marks, h⟩ := s
  obtain ⟨hr, hB, ht, hmk⟩ := hat
  dsimp only at hr hB ht hmk hK
  have hdone : ∀ {m' : M} {w' : World} {h' : H} {v0 : V} {x : Value}, SR base m h w m' h' w' → VR m' v0 x → put t nt marks h' o.dst v0 = some (v, s') → K (a.put o.dst x) w' := by
    intro m' w' h' v0 x hsr hv hp
    obtain ⟨e1, e2, e3, _, e5, e6⟩ := put_TR hp (ht.mono hsr.ext) hv
    subst e1
    refine hK m' x w' (by rw [e2]; exact hsr) hv e5 ?_
    rw [e3, e6]; exact hmk.mono hsr.ext
  refine ⟨fun _ _ => trivial, ?_⟩
  cases ha : compOp P o.op with
  | q f =>
    have hsem : o.semAt (rf rr).round a.eval = execOp a.eval o := Oper.semAt_eq _ _ _ (not_defer (P := P) (by rw [ha]; intro h; cases h))
    rw [hsem]
    rw [ha] at hact
    simp only [act] at hact
    cases hf : f t with
    | none => rw [hf] at hact; cases hact
    | some v0 =>
      rw [hf] at hact
      obtain ⟨z, hz, hrun⟩ := comp_q ht ha hf w
      rw [hrun, Oper.uponIn_value]
      exact hdone (.refl hr) hz hact
  | r f =>
    have hsem : o.semAt (rf rr).round a.eval = execOp a.eval o := Oper.semAt_eq _ _ _ (not_defer (P := P) (by rw [ha]; intro h; cases h))
    rw [hsem]
    rw [ha] at hact
    simp only [act] at hact
    cases hf : f h t with
    | none => rw [hf] at hact; cases hact
    | some v0 =>
      rw [hf] at hact
      obtain ⟨z, hz, hrun⟩ := comp_r hr ht ha hf
      rw [hrun, Oper.uponIn_value]
      exact hdone (.refl hr) hz hact
  | m f =>
    have hsem : o.semAt (rf rr).round a.eval = execOp a.eval o := Oper.semAt_eq _ _ _ (not_defer (P := P) (by rw [ha]; intro h; cases h))
    rw [hsem]
    rw [ha] at hact
    simp only [act] at hact
    cases hf : f t with
    | none => rw [hf] at hact; cases hact
    | some bg =>
      obtain ⟨b, g⟩ := bg
      rw [hf] at hact
      dsimp only at hact
      rw [forceH_eq] at hact
      obtain ⟨obj, z, hrun, hbr, hv, _⟩ := comp_m (w := w) ht (hr.dom h.n (Nat.le_refl _)) ha hf
      rw [hrun, Oper.uponIn_value]
      exact hdone (SR.new' hr hB hbr) hv hact
  | w f =>
    have hsem : o.semAt (rf rr).round a.eval = execOp a.eval o := Oper.semAt_eq _ _ _ (not_defer (P := P) (by rw [ha]; intro h; cases h))
    rw [hsem]
    rw [ha] at hact
    simp only [act] at hact
    cases hf : f h t with
    | none => rw [hf] at hact; cases hact
    | some vh =>
      obtain ⟨v0, h'⟩ := vh
      rw [hf] at hact
      dsimp only at hact
      rw [forceH_eq] at hact
      obtain ⟨nx, z, m', w', hrun, hnx, hsr, hv⟩ := comp_w hr hB ht ha hf
      rw [hrun]
      rcases hnx with rfl | ⟨rfl, rfl⟩
      · rw [Oper.uponIn_value]; exact hdone hsr hv hact
      · rw [Oper.uponIn_skip]; exact hdone hsr hv hact
  | c g as =>
    have hsem : o.semAt (rf rr).round a.eval = execOp a.eval o := Oper.semAt_eq _ _ _ (not_defer (P := P) (by rw [ha]; intro h; cases h))
    rw [hsem]
    obtain ⟨gop, args, ts, hop, rfl, rfl⟩ := comp_c ha
    rw [ha] at hact
    simp only [act] at hact
    have hexec : execOp a.eval o = (do let d ← Deferred.ofValue (a.eval gop) (args.map a.eval); invoke d.target d.args) := by
      simp only [execOp, hop, resolve]
    rw [hexec]
    split at hact
    · rename_i f first caps as hg has
      have hu := opX_VR ht hg
      have hargs := evs_VRs ht has
      cases hgv : a.eval gop <;> rw [hgv] at hu <;> cases hu
      rename_i p' q' la ha1 lb hb1
      cases hself : self (.call f (first ++ as ++ caps) h) with
      | none => rw [hself] at hact; cases hact
      | some rs =>
        rw [hself] at hact
        cases rs with
        | out ex s2 => cases hact
        | val v0 h' =>
          dsimp only at hact
          have hvs : VRs m (first ++ as ++ caps) ((p'.toList ++ args.toList.map a.eval) ++ q'.toList) := ((VRs.of_array la ha1).append hargs).append (VRs.of_array lb hb1)
          obtain ⟨⟨fn, hfn, hbody, hname⟩, hcall⟩ := hS.call _ _ _ _ _ hself m w _ hr hB hvs
          have hrun : (do let d ← Deferred.ofValue (.func (.func f) p' q') (args.map a.eval); invoke d.target d.args : Sem Next).run P w = .ok (.enter f ((p'.toList ++ args.toList.map a.eval) ++ q'.toList).toArray) w := by
            have hnone : fn.body.isNone = false := by cases hb : fn.body <;> simp_all
            simp only [Sem.run_bind, Deferred.ofValue, Sem.run_pure, Result.andThen_ok, invoke, callFunc, run_program, hfn, hname, Bool.false_eq_true, if_false, hnone]
            congr 2
            apply Array.ext'
            simp
          rw [hrun, Oper.uponIn_enter]
          refine ⟨fun hd => (by cases hd), ?_⟩
          refine CallsIn.mono (F := rf rr) hcall ?_
          rintro e w' ⟨m', x, rfl, hsr, hv⟩
          exact hdone hsr hv hact
    · rename_i l as hg has
      have hu := opX_VR ht hg
      have hargs := evs_VRs ht has
      cases hgv : a.eval gop <;> rw [hgv] at hu <;> cases hu
      rename_i r hml
      cases hself : self (.yld l as h) with
      | none => rw [hself] at hact; cases hact
      | some rs =>
        rw [hself] at hact
        cases rs with
        | out ex s2 => cases hact
        | val v0 h' =>
          dsimp only at hact
          obtain ⟨f, tmps, assign, body, hyr, hround⟩ := hS.yld _ _ _ _ _ hself m w _ r hr hB hml hargs
          have hrun : (do let d ← Deferred.ofValue (.func (.yield r) #[] #[]) (args.map a.eval); invoke d.target d.args : Sem Next).run P w = .ok (.round r f tmps assign body) w := by
            simp only [Sem.run_bind, Deferred.ofValue, Sem.run_pure, Result.andThen_ok, invoke]
            have : (#[] ++ args.map a.eval) = (args.toList.map a.eval).toArray := by apply Array.ext'; simp
            rw [this]; exact hyr
          rw [hrun, Oper.uponIn_round]
          refine ⟨fun hd => (by cases hd), ?_⟩
          refine RoundIn.mono (F := rf rr) hround ?_
          rintro e w' ⟨m', x, rfl, hsr, hv⟩
          exact hdone hsr hv hact
    · cases hact
  | bad => rw [ha] at hact; cases hact
theorem doOp_sound (hS : Sound P base kf self) {ops : Array Oper} {o : Oper} {s : St} {v : V} {s' : St} (hdo : doOp self (compO P ops o) s = some (v, s')) {m : M} {a : Act} {w : World} (hat : At Z base m s a w) {rr : Option Nat} {K : Act → World → Prop} {Q : Exit → Act → World → Prop}
    (hK : ∀ m' x w', SR base m s.h w m' s'.h w' → VR m' v x → TR m' s'.t s'.nt (a.put o.dst x).tmps → MK Z m' s'.marks (a.put o.dst x).defers → K (a.put o.dst x) w') :
    if Region.wanted o (yielded ops a.tmps) = true then o.wpIn (rf rr) 0 P a w K Q else (∀ f, o.about P w a.eval = some f → (rf rr).fn f) ∧ K (a.put o.dst undef) w := by
  obtain ⟨t, nt, marks, h⟩ := s
  have hg := doOp_guard hdo
  obtain ⟨ha, hd⟩ := compO_a hg
  have hdo' : (match wanted t (compO P ops o).g with
    | some true => act self (compO P ops o).a (compO P ops o).d ⟨t, nt, marks, h⟩
    | some false => put t nt marks h (compO P ops o).d (.tup [])
    | none => none) = some (v, s') := hdo
  cases hw : wanted t (compO P ops o).g with
  | none => rw [hw] at hdo'; cases hdo'
  | some b =>
    rw [hw] at hdo'
    have hwant := wanted_sound hat.tr hw hg
    cases b with
    | true =>
      rw [if_pos hwant]
      dsimp only at hdo'
      rw [ha, hd] at hdo'
      exact act_sound hS hdo' hat hK
    | false =>
      rw [if_neg (by rw [hwant]; exact Bool.false_ne_true)]
      dsimp only at hdo'
      rw [hd] at hdo'
      refine ⟨fun _ _ => trivial, ?_⟩
      obtain ⟨e1, e2, e3, _, e5, e6⟩ := put_TR hdo' hat.tr (VR.undef m)
      subst e1
      refine hK m undef w (by rw [e2]; exact .refl hat.hr) (VR.undef m) e5 ?_
      rw [e3, e6]; exact hat.mks
end
end Go.As
/- The machine, whole: code, calls, rounds. -/
namespace Go.As
section
variable {base kf : Nat} {P : Program} {self : Rq → Option Rs}
theorem To.trans {m m1 : M} {s s1 s2 : St} {a2 : Act} {w w1 w2 : World} (h : SR base m s.h w m1 s1.h w1) (t : To none base m1 s1 w1 s2 a2 w2) : To none base m s w s2 a2 w2 := by
  obtain ⟨m2, h1, h2, h3⟩ := t
  exact ⟨m2, h.trans h1, h2, h3⟩
theorem PostC.trans {m m1 : M} {s s1 s2 : St} {w w1 : World} {ex : Ex} (h : SR base m s.h w m1 s1.h w1) : ∀ e a w2, PostC none base m1 s1 w1 ex s2 e a w2 → PostC none base m s w ex s2 e a w2 :=
  fun _ _ _ ⟨h1, h2⟩ => ⟨h1, h2.trans h⟩
theorem PostC.ne_goto {m : M} {s s' : St} {w : World} {ex : Ex} {l : Nat} {a : Act} {w' : World} : ¬ PostC none base m s w ex s' (.goto l) a w' := by
  rintro ⟨h, _⟩; cases ex <;> cases h
theorem stepR_scope {b : Frame} {a : Act} {k : List Item} {cs : List Frame} {w : World} {c : Code} : Go.step P (lone (b.atR a (.code (.scope c) :: k)) cs w) = .next (lone (b.atR a (.code c :: .inScope c :: k)) cs w) :=
  step_lone_go (by simp [stepG, stepG.exec, Frame.atR])
theorem stepR_inScope {b : Frame} {a : Act} {k : List Item} {cs : List Frame} {w : World} {c : Code} : Go.step P (lone (b.atR a (.inScope c :: k)) cs w) = .next (lone (b.atR a k) cs w) :=
  step_lone_go (by simp [stepG, stepG.exec, Frame.atR])
theorem wpIn_scope {F : Fence} {n : Nat} {c : Code} {Q : Exit → Act → World → Prop} {a : Act} {w : World} (hno : ∀ l a w, ¬ Q (.goto l) a w) (h : c.wpIn F n P Q a w) : (Code.scope c).wpIn F n P Q a w := by
  intro b k cs hro hb hr
  have h0 : (lone (b.atR a (.code (.scope c) :: k)) cs w).fenced P F := fenced_calm hb hr rfl
  obtain ⟨e, a₁, w₁, hq, harr⟩ := h b (.inScope c :: k) cs hro hb hr
  cases e with
  | normal => exact ⟨.normal, a₁, w₁, hq, .head h0 stepR_scope (StepsIn.trans harr (.one (fenced_calm hb hr rfl) stepR_inScope))⟩
  | exit id =>
    have hx : exitTo id (.inScope c :: k) = exitTo id k := by simp [exitTo]
    exact ⟨_, a₁, w₁, hq, fun k' hk => .head h0 stepR_scope (harr.1 k' (by rw [hx]; exact hk)),
      fun hr' hk => let ⟨k₁, h1, h2⟩ := harr.2 hr' (by rw [hx]; exact hk); ⟨k₁, h1, .head h0 stepR_scope h2⟩⟩
  | goto l => exact absurd hq (hno l a₁ w₁)
  | ret => exact ⟨_, a₁, w₁, hq, .of_steps (.one h0 stepR_scope) harr⟩
  | panic ch => exact ⟨_, a₁, w₁, hq, .of_steps (.one h0 stepR_scope) harr⟩
  | outgrown => exact ⟨_, a₁, w₁, hq, .of_steps (.one h0 stepR_scope) harr⟩
end
end Go.As
/- Calls and rounds. -/
namespace Go.As
theorem VR.of_bare0 {m m' : M} (hz : ∀ r p, m'.fz r = some p → m.fz r = some p) {v : V} {x : Value} (h : VR m' v x) (hb : bare0 v = true) : VR m v x := by
  cases h with
  | rsl h => exact .rsl (h.mono hz)
  | rptr h => exact .rptr (h.mono hz)
  | bool b => exact .bool b
  | int k n => exact .int k n
  | str s => exact .str s
  | nilp => exact .nilp
  | nils => exact .nils
  | nilm => exact .nilm
  | nilf => exact .nilf
  | _ => cases hb
theorem VR.of_bare1 {m m' : M} (hz : ∀ r p, m'.fz r = some p → m.fz r = some p) {v : V} {x : Value} (h : VR m' v x) (hb : bare1 v = true) : VR m v x := by
  cases h with
  | rsl h => exact .rsl (h.mono hz)
  | rptr h => exact .rptr (h.mono hz)
  | agg l hc => exact .agg l (fun k v x hv hx => (hc k v x hv hx).of_bare0 hz (List.all_eq_true.1 hb v (List.mem_of_getElem? hv)))
  | bool b => exact .bool b
  | int k n => exact .int k n
  | str s => exact .str s
  | nilp => exact .nilp
  | nils => exact .nils
  | nilm => exact .nilm
  | nilf => exact .nilf
  | _ => cases hb
theorem VR.of_bare {m m' : M} (hz : ∀ r p, m'.fz r = some p → m.fz r = some p) {v : V} {x : Value} (h : VR m' v x) (hb : bare v = true) : VR m v x := by
  cases h with
  | rsl h => exact .rsl (h.mono hz)
  | rptr h => exact .rptr (h.mono hz)
  | tup l hc => exact .tup l (fun k v x hv hx => (hc k v x hv hx).of_bare1 hz (List.all_eq_true.1 hb v (List.mem_of_getElem? hv)))
  | agg l hc => exact VR.of_bare1 hz (.agg l hc) hb
  | bool b => exact .bool b
  | int k n => exact .int k n
  | str s => exact .str s
  | nilp => exact .nilp
  | nils => exact .nils
  | nilm => exact .nilm
  | nilf => exact .nilf
  | _ => cases hb
theorem VR.of_strict0 {m m' : M} {v : V} {x : Value} (h : VR m' v x) (hb : strict0 v = true) : VR m v x := by
  cases h with
  | bool b => exact .bool b
  | int k n => exact .int k n
  | str s => exact .str s
  | nilp => exact .nilp
  | nils => exact .nils
  | nilm => exact .nilm
  | nilf => exact .nilf
  | _ => cases hb
theorem VR.of_strict1 {m m' : M} {v : V} {x : Value} (h : VR m' v x) (hb : strict1 v = true) : VR m v x := by
  cases h with
  | agg l hc => exact .agg l (fun k v x hv hx => (hc k v x hv hx).of_strict0 (List.all_eq_true.1 hb v (List.mem_of_getElem? hv)))
  | bool b => exact .bool b
  | int k n => exact .int k n
  | str s => exact .str s
  | nilp => exact .nilp
  | nils => exact .nils
  | nilm => exact .nilm
  | nilf => exact .nilf
  | _ => cases hb
theorem VR.of_strict {m m' : M} {v : V} {x : Value} (h : VR m' v x) (hb : strict v = true) : VR m v x := by
  cases h with
  | tup l hc => exact .tup l (fun k v x hv hx => (hc k v x hv hx).of_strict1 (List.all_eq_true.1 hb v (List.mem_of_getElem? hv)))
  | agg l hc => exact VR.of_strict1 (.agg l hc) hb
  | bool b => exact .bool b
  | int k n => exact .int k n
  | str s => exact .str s
  | nilp => exact .nilp
  | nils => exact .nils
  | nilm => exact .nilm
  | nilf => exact .nilf
  | _ => cases hb
theorem HR.same {base : Nat} {m : M} {h h' : H} {w : World} (hr : HR base m h w) (hg : ∀ i, h'.get i = h.get i) (hn : h'.n = h.n) : HR base m h' w where
  blk := fun i b r s hi hm => hr.blk i b r s (by rw [← hg]; exact hi) hm
  inj := fun i j bi bj r s s' hi hj => hr.inj i j bi bj r s s' (by rw [← hg]; exact hi) (by rw [← hg]; exact hj)
  own := fun i b r s hi => hr.own i b r s (by rw [← hg]; exact hi)
  frz := hr.frz
  nfz := fun i b r s hi => hr.nfz i b r s (by rw [← hg]; exact hi)
  rng := hr.rng
  lt := fun i b hi => by rw [hn]; exact hr.lt i b (by rw [← hg]; exact hi)
  dom := fun i hi => hr.dom i (by rw [← hn]; exact hi)
section
variable {base kf : Nat} {P : Program} {self : Rq → Option Rs}
theorem fetches_sound {m : M} {h : H} {w : World} {t : Tr V} {nt : Nat} {tmps : Array Value} (hr : HR base m h w) (ht : TR m t nt tmps) (g : ResultVar → Sem Value) (hg1 : ∀ i, g (.tmp i) = pure (tmps.getD i undef)) (hg2 : ∀ i ty, g (.cell i ty) = (do loadVar ty (← asAddr (tmps.getD i undef)))) : ∀ (l : List ResultVar) (vs : List V), mapM' (fetch P t h) l = some vs →
    ∃ xs, (l.mapM g).run P w = .ok xs w ∧ VRs m vs xs := by
  intro l
  induction l with
  | nil => intro vs hv; cases hv; exact ⟨[], by simp, .nil m⟩
  | cons r l ih =>
    intro vs hv
    simp only [mapM'] at hv
    cases hf : fetch P t h r with
    | none => rw [hf] at hv; cases hv
    | some v =>
      rw [hf] at hv
      dsimp only at hv
      cases hm : mapM' (fetch P t h) l with
      | none => rw [hm] at hv; cases hv
      | some us =>
        rw [hm] at hv; cases hv
        obtain ⟨xs, hx, hvs⟩ := ih us hm
        have key : ∃ x, (g r).run P w = .ok x w ∧ VR m v x := by
          cases r with
          | tmp i =>
            obtain ⟨x, hx, hvx⟩ := ht.2 i v hf
            refine ⟨x, ?_, hvx⟩
            rw [hg1, Array.getD_eq_getD_getElem?, hx]; rfl
          | cell i ty =>
            have hf' : (match t.get i with | some (.ptr b o) => load? P ty h b o | _ => none) = some v := hf
            split at hf'
            · rename_i b o hti
              obtain ⟨x, hx, hvx⟩ := ht.2 i _ hti
              cases hvx with
              | ptr hmb =>
                obtain ⟨z, hz, hrun⟩ := load_at hr hmb hf'
                refine ⟨z, ?_, hz⟩
                rw [hg2, Array.getD_eq_getD_getElem?, hx]
                simp only [Option.getD_some, asAddr, Sem.run_bind, Sem.run_pure, Result.andThen_ok]
                exact hrun
            · cases hf'
        obtain ⟨x, hxr, hvx⟩ := key
        exact ⟨x :: xs, by simp [List.mapM_cons, Sem.run_bind, hxr, hx, Result.andThen_ok], hvs.cons hvx⟩
theorem results_sound {m : M} {h : H} {w : World} {t : Tr V} {nt : Nat} {tmps : Array Value} {fn : Func} (hr : HR base m h w) (ht : TR m t nt tmps) {vs : List V} {v : V} (hf : mapM' (fetch P t h) fn.results.toList = some vs) (h1 : one? vs = some v) :
    ∃ x, (results fn tmps).run P w = .ok x w ∧ VR m v x := by
  let g : ResultVar → Sem Value := fun
    | .tmp t => pure (tmps.getD t undef)
    | .cell a t => do loadVar t (← asAddr (tmps.getD a undef))
  obtain ⟨xs, hx, hvs⟩ := fetches_sound hr ht g (fun _ => rfl) (fun _ _ => rfl) _ _ hf
  have hrun : (results fn tmps).run P w = .ok (if h : xs.toArray.size = 1 then xs.toArray[0] else .tuple xs.toArray) w := by
    show (do let vs ← fn.results.mapM g; pure (if h : vs.size = 1 then vs[0] else .tuple vs) : Sem Value).run P w = _
    rw [Array.mapM_eq_mapM_toList]
    simp only [Sem.run_bind, map_eq_pure_bind, hx, Result.andThen_ok, Sem.run_pure]
  rw [hrun]
  unfold one? at h1
  split at h1
  · rename_i v0
    cases h1
    obtain ⟨y, ys, rfl, hy, hys⟩ := hvs.uncons
    have : ys = [] := List.eq_nil_of_length_eq_zero hys.1.symm
    subst this
    exact ⟨y, by simp, hy⟩
  · rename_i hne
    cases h1
    have hsz : ¬ xs.toArray.size = 1 := by
      intro he
      have hl : vs.length = 1 := by rw [hvs.1]; simpa using he
      match vs, hl with
      | [v0], _ => exact hne v0 rfl
    refine ⟨.tuple xs.toArray, by rw [dif_neg hsz], ?_⟩
    exact VRs.tup (by simpa using hvs)
theorem setAll_sound {m : M} {nt : Nat} : ∀ (ps : List Nat) (vs : List V) (xs : List Value) (t t' : Tr V) (tmps : Array Value), setAll nt t ps vs = some t' → TR m t nt tmps → VRs m vs xs →
    ps.length = xs.length ∧ TR m t' nt ((ps.zip xs).foldl (fun tmps p => tmps.setIfInBounds p.1 p.2) tmps) := by
  intro ps
  induction ps with
  | nil =>
    intro vs xs t t' tmps h ht hv
    cases vs with
    | nil =>
      cases h
      have : xs = [] := List.eq_nil_of_length_eq_zero hv.1.symm
      subst this
      exact ⟨rfl, ht⟩
    | cons v vs => cases h
  | cons p ps ih =>
    intro vs xs t t' tmps h ht hv
    cases vs with
    | nil => cases h
    | cons v vs =>
      obtain ⟨x, xs', rfl, hvx, hvs⟩ := hv.uncons
      have h' : (match Nat.blt p nt with
        | true => strictT (t.set p v) fun t => setAll nt t ps vs
        | false => none) = some t' := h
      cases hb : Nat.blt p nt with
      | false => rw [hb] at h'; cases h'
      | true =>
        rw [hb] at h'
        dsimp only at h'
        rw [strictT_eq] at h'
        obtain ⟨h1, h2⟩ := ih vs xs' _ t' (tmps.setIfInBounds p x) h' (ht.set (by rw [← Nat.blt_eq]; exact hb) hvx) hvs
        exact ⟨by simp [h1], h2⟩
theorem loop_put {m : M} {h : H} {w : World} (hr : HR base m h w) {l r : Nat} {L : Lp} {R : Loop} (hg : h.get l = some (.loop L)) (hm : m l = some (r, 0, 0)) (ho : w.heap[r]? = some (.loop R)) (st : LoopState) (pd : Option Code) :
    SR base m h w m (h.put l (.loop { L with state := st, pending := pd })) (w.putObj r (.loop { R with state := st, pending := pd })) := by
  obtain ⟨_, R', ho', h1, h2, h3, h4, h5, h6, h7⟩ := hr.blk l _ r (0, 0) hg hm
  rw [ho] at ho'; cases ho'
  exact SR.put hr hg rfl hm ⟨rfl, _, World.putObj_heap_same (hr.rng l r _ hm), rfl, rfl, h3, h4, h5, h6, h7⟩ (fun r' h => World.putObj_heap_other h) World.putObj_size rfl rfl rfl
end
end Go.As
