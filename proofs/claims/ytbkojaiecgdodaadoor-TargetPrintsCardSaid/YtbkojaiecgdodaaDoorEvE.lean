/- A part of an evaluator of runs, and that it is right. -/
import Derived.Test.YtbkojaiecgdodaaDoorEvD
set_option linter.unusedVariables false
set_option linter.unusedSimpArgs false
set_option linter.unusedSectionVars false
namespace Go.Ev
variable [Den]
section
variable {P : Program} {eqs : List Nat} {clone : Sp} {n0 ng : Nat} {ρ : Rho} {h : H} {α : A} {a : Act} {w w' : World}

def NoName (P : Program) : Prop := ∀ f ∈ P.funcs.toList, (f.name == "runtime.NumGoroutine") = false

theorem callFunc_enter (hn : NoName P) {f : FuncId} {fn : Func} {b : Code} (hf : P.funcs[f]? = some fn) (hb : fn.body = some b) (args : Array Value) : (callFunc f args).run P w = .ok (.enter f args) w := by
  have hm : fn ∈ P.funcs.toList := by
    have := Array.mem_of_getElem? hf
    simpa using this
  have h1 := hn fn hm
  simp [callFunc, hf, hb]
  intro e
  rw [e] at h1
  cases h1

theorem callV_sound (hn : NoName P) (hcl : CloneOk P clone) {cl : CallT} (hc : CallOk P ng n0 cl) (s : Sim ng n0 ρ h w) {f fv : Value} {args args' : List Value} {v : Value} {h' : H} (hf : VR ρ f fv) (ha : VRs ρ args args')
    (hl : callV (Env.of P eqs clone) f args cl h = some (v, h')) :
    Res P (do let d ← Deferred.ofValue fv ⟨args'⟩; invoke d.target d.args) w (Post ng n0 ρ h w h' v) := by
  unfold callV at hl
  split at hl
  · rename_i g fa fb
    cases hf with
    | func _ _ ys _ ws hfa hfb =>
      have hargs := (hfa.append ha).append hfb
      have he : (do let d ← Deferred.ofValue (.func (.func g) ⟨ys⟩ ⟨ws⟩) ⟨args'⟩; invoke d.target d.args : Sem Next) = callFunc g ⟨ys ++ args' ++ ws⟩ := by
        simp [Deferred.ofValue, invoke]
      rw [he]
      rw [bi_eq] at hl
      split at hl
      · rename_i hg
        have hg : g = clone.clone := Nat.eq_of_beq_eq_true hg
        subst hg
        rw [bi_none_some] at hl
        obtain ⟨hz, hl⟩ := hl
        obtain ⟨v', w', h1, h2⟩ := clone_sound hcl (fun e => by rw [e] at hz; cases hz) s hargs hl
        exact Or.inl ⟨v', w', h1, h2⟩
      rw [bi_eq] at hl
      split at hl
      · rename_i hg
        have hg : g = clone.idx := Nat.eq_of_beq_eq_true hg
        subst hg
        rw [bi_none_some] at hl
        obtain ⟨hz, hl⟩ := hl
        obtain ⟨v', w', h1, h2⟩ := idxE_sound hcl (fun e => by rw [e] at hz; cases hz) s hargs hl
        exact Or.inl ⟨v', w', h1, h2⟩
      rw [bi_eq] at hl
      split at hl
      · rename_i hg
        have hg : g = clone.str := Nat.eq_of_beq_eq_true hg
        subst hg
        rw [bi_none_some] at hl
        obtain ⟨hz, hl⟩ := hl
        obtain ⟨⟨fn, b, hf, hb⟩, hcalls⟩ := hcl.str (fun e => by rw [e] at hz; cases hz)
        unfold strE at hl
        split at hl
        · rename_i str hstr
          rw [hstr] at hargs
          rw [bi_some_none] at hl
          obtain ⟨hlen, hl⟩ := hl
          injection hl with hl; injection hl with e1 e2; subst e1; subst e2
          have hlen : (strL str).length ≤ 1000000 := Nat.le_of_ble_eq_true hlen
          have hsz : str.size = (strL str).length := (Array.length_toList (xs := str.data)).symm
          generalize ys ++ args' ++ ws = L at hargs ⊢
          cases hargs with
          | cons _ _ _ _ h1 h2 =>
            cases h2; cases h1
            refine Or.inr (Or.inr (Or.inl ⟨clone.str, #[.string str], w, callFunc_enter hn hf hb _, (hcalls str w (by omega)).mono fun e w' ⟨he, hbl⟩ => ⟨_, he, ρ, (s.below hbl).1, (s.below hbl).2, .string _⟩⟩))
        · cases hl
      · obtain ⟨⟨fn, b, hf, hb⟩, hcalls⟩ := hc.fn _ _ _ _ _ hl
        exact Or.inr (Or.inr (Or.inl ⟨g, _, w, callFunc_enter hn hf hb _, hcalls ρ w _ s hargs⟩))
  · rename_i l
    cases hf with
    | yld l L hL =>
      obtain ⟨r, k1, k2, k3⟩ := hc.yd _ _ _ _ _ hl ρ w L args' s hL ha
      refine Or.inr (Or.inr (Or.inr ⟨L, r.fn, putPs r ⟨args'⟩, r.assign, r.body, w, ?_, k3⟩))
      have := run_yield (P := P) (args := ⟨args'⟩) k1 (by simpa using k2)
      simpa [Deferred.ofValue, invoke, putPs] using this
  · cases hl

theorem call_sound (hn : NoName P) (hcl : CloneOk P clone) {cl : CallT} (hc : CallOk P ng n0 cl) (c : Ctx P eqs ρ α a) (s : Sim ng n0 ρ h w) {k : Call} {v : Value} {h' : H} (hl : lCall k (Env.of P eqs clone) cl α h = some (v, h')) (o : Oper) (ho : o.op = .call k) :
    Res P (execOp a.eval o) w (Post ng n0 ρ h w h' v) := by
  unfold lCall at hl
  rw [ob_some] at hl
  obtain ⟨args, hargs0, hl⟩ := hl
  have hargs := c.opvs hargs0
  clear hargs0
  obtain ⟨cal, kargs, kts⟩ := k
  simp only at hl hargs
  have hrun : ∀ b, cal = .builtin b → (execOp a.eval o).run P w = (builtin b kts o.type (kargs.map fun | .const _ => true | _ => false) (kargs.map a.eval)).run P w := by
    intro b hb
    simp only [execOp, ho, resolve, hb, Sem.run_bind, Sem.run_pure, Result.andThen_ok, invoke]
    rfl
  have hka : (kargs.map a.eval) = ⟨kargs.toList.map a.eval⟩ := by apply Array.ext'; simp
  generalize kargs.toList.map a.eval = vs at *
  have lift : ∀ {b : Builtin} {sv : Sem Value}, cal = .builtin b → builtin b kts o.type (kargs.map fun | .const _ => true | _ => false) ⟨vs⟩ = (do pure (.value (← sv))) →
      (∃ v' w', sv.run P w = .ok v' w' ∧ Post ng n0 ρ h w h' v v' w') → Res P (execOp a.eval o) w (Post ng n0 ρ h w h' v) := by
    intro b sv hb he ⟨v', w', h1, h2⟩
    refine Or.inl ⟨v', w', ?_, h2⟩
    rw [hrun b hb, hka, he]
    simp [h1]
  split at hl
  · rename_i f
    rw [ob_some] at hl
    obtain ⟨fv, hf0, hl⟩ := hl
    have := callV_sound hn hcl hc s (c.opv hf0) hargs hl
    have he : execOp a.eval o = (do let d ← Deferred.ofValue (a.eval f) ⟨vs⟩; invoke d.target d.args) := by
      simp only [execOp, ho, resolve, hka]
    rw [he]
    exact this
  · split at hl
    · rename_i sv x
      split at hl
      · rename_i t u hts
        cases hargs with
        | cons _ _ _ _ h1 h2 => cases h2 with
          | cons _ _ _ _ h2 h3 =>
            cases h3
            have hk : kts = #[t, u] := by apply Array.ext'; exact hts
            subst hk
            exact lift rfl rfl (appendE_sound s h1 h2 hl)
      · cases hl
    · cases hl
  · split at hl
    · rename_i sv x
      split at hl
      · rename_i t u hts
        cases hargs with
        | cons _ _ _ _ h1 h2 => cases h2 with
          | cons _ _ _ _ h2 h3 =>
            cases h3
            have hk : kts = #[t, u] := by apply Array.ext'; exact hts
            subst hk
            exact lift rfl rfl (copy_sound s h1 h2 hl)
      · cases hl
    · cases hl
  · split at hl
    · rename_i x
      split at hl
      · rename_i t ts hts
        cases hargs with
        | cons _ _ _ _ h1 h2 =>
          cases h2
          have hk : kts = ⟨t :: ts⟩ := by apply Array.ext'; exact hts
          subst hk
          exact lift rfl rfl (clear_sound s h1 hl)
      · cases hl
    · cases hl
  · split at hl
    · rename_i m k
      split at hl
      · rename_i t ts hts
        cases hargs with
        | cons _ _ _ _ h1 h2 => cases h2 with
          | cons _ _ _ _ h2 h3 =>
            cases h3
            have hk : kts = ⟨t :: ts⟩ := by apply Array.ext'; exact hts
            subst hk
            exact lift rfl rfl (delete_sound c.eq s h1 h2 hl)
      · cases hl
    · cases hl
  · split at hl
    · rename_i t hts
      rw [ob_some] at hl
      obtain ⟨r, hr, hl⟩ := hl
      have hk : kts = #[t] := by apply Array.ext'; exact hts
      subst hk
      split at hl
      · rename_i kt et hty
        injection hl with hl; injection hl with e1 e2; subst e1; subst e2
        cases hargs with
        | cons _ _ _ _ h1 h2 =>
          cases h2; cases h1
          exact lift rfl rfl ⟨_, w, by simp [Builtin.len_, run_under hr, hty, goInt], ρ, s, Step.refl _ _ _, .int _ _⟩
      · rename_i kt et b hty
        rw [om_some] at hl
        obtain ⟨e, he, hl⟩ := hl
        injection hl with e1 e2; subst e1; subst e2
        cases hargs with
        | cons _ _ _ _ h1 h2 =>
          cases h2
          cases h1 with
          | map b B hb =>
            obtain ⟨es', q1, q2, _, q3, hER⟩ := mapAt_sound s hb he
            have hg : (getObj B).run P w = .ok (.map ⟨es'⟩ e.2) w := run_getObj_map (w := w) B _ _ q3
            refine lift rfl rfl ⟨.int .i64 (Int.ofNat e.1.length), w, ?_, ρ, s, Step.refl _ _ _, .int _ _⟩
            simp [Builtin.len_, run_under hr, hty, goInt, hg, hER.length]
      · cases hl
    · cases hl
  · cases hl

theorem str_sound (c : Ctx P eqs ρ α a) (s : Sim ng n0 ρ h w) {st dt : TypeId} {x : Operand} {cl : CallT} {v : Value} {h' : H} (hl : lBytes st dt x (Env.of P eqs clone) cl α h = some (v, h')) :
    ∃ v' w', (convert st dt (a.eval x)).run P w = .ok v' w' ∧ Post ng n0 ρ h w h' v v' w' := by
  unfold lBytes at hl
  rw [ob_some] at hl
  obtain ⟨u, hu, hl⟩ := hl
  rw [ob_some] at hl
  obtain ⟨rs, hrs, hl⟩ := hl
  rw [ob_some] at hl
  obtain ⟨rd, hrd, hl⟩ := hl
  have hu' := c.opv hu
  generalize a.eval x = ex at *
  split at hl
  · rename_i e str hs hd
    rw [ob_some] at hl
    obtain ⟨re, hre, hl⟩ := hl
    split at hl
    · rename_i he
      injection hl with hl; injection hl with e1 e2; subst e1; subst e2
      obtain ⟨_, _, hrs', _, _, _⟩ := ty_spec hrs
      obtain ⟨_, _, hrd', _, _, _⟩ := ty_spec hrd
      obtain ⟨_, _, hre', _, _, _⟩ := ty_spec hre
      rw [hs] at hrs'; rw [hd] at hrd'; rw [he] at hre'
      cases hu'
      have hrun := run_bytes_of_string w st dt e str hrs' hrd' hre'
      have hsz : str.size = (strL str).length := (Array.length_toList (xs := str.data)).symm
      have hge := grownCap_ge w str.size 0 e
      have hbs : (bytesRow str (grownCap w str.size 0 e)).size = grownCap w str.size 0 e := by
        have h1 : (str.data.map (fun b => Value.int .u8 b.toNat)).size = str.size := by rw [Array.size_map]; rfl
        unfold bytesRow
        rw [Array.size_append, h1, Array.size_replicate]
        omega
      have hmap : VRs ρ ((strL str).map fun b => Value.int .u8 b.toNat) ((strL str).map fun b => Value.int .u8 b.toNat) := by
        refine VRs.of_get rfl fun i v hv => ⟨v, hv, ?_⟩
        rw [List.getElem?_map] at hv
        cases hq : (strL str)[i]? with
        | none => rw [hq] at hv; cases hv
        | some b => rw [hq] at hv; injection hv with hv; subst hv; exact .int _ _
      have hcs : ∀ (i : Nat) (v : Value), ((strL str).map fun b => Value.int .u8 b.toNat)[i]? = some v → (bytesRow str (grownCap w str.size 0 e))[i]? = some v := by
        intro i v hv
        have hi := (List.getElem?_eq_some_iff.1 hv).1
        unfold bytesRow
        have hl : (strL str).length = str.data.size := Array.length_toList (xs := str.data)
        rw [List.length_map] at hi
        rw [Array.getElem?_append_left (by rw [Array.size_map]; omega)]
        simpa [strL] using hv
      obtain ⟨s1, t1⟩ := new_cellsF (s.drawn (w.drawn + 1)) hmap _ hcs e (fz := ((bytesRow str (grownCap w str.size 0 e)).size, (bytesRow str (grownCap w str.size 0 e)).size + 1)) (fun k hk => by simp; omega)
      refine ⟨_, _, hrun, _, s1, post_drawn s t1, ?_⟩
      have hsame := upd_same ρ h.next w.heap.size 0 (bytesRow str (grownCap w str.size 0 e)).size
      have hlim := upd_lim ρ h.next w.heap.size 0 (bytesRow str (grownCap w str.size 0 e)).size
      rw [hsz]
      refine .slice _ 0 _ _ _ 0 _ hsame (Or.inl ⟨1, 0, by unfold capK; omega, rfl, Nat.zero_le _, ?_⟩) (by rw [← hsz]; exact hge)
      show 0 + 0 + grownCap w (strL str).length 0 e * 1 ≤ _
      rw [← hsz]
      have : (upd ρ h.next w.heap.size 0 (bytesRow str (grownCap w str.size 0 e)).size).lim w.heap.size = _ := hlim
      rw [this, hbs]; omega
    · cases hl
  · cases hl

theorem loud_sound (hn : NoName P) (hcl : CloneOk P clone) {cl : CallT} (hc : CallOk P ng n0 cl) (c : Ctx P eqs ρ α a) (s : Sim ng n0 ρ h w) {o : Oper} {v : Value} {h' : H} (hl : loudE o.op (Env.of P eqs clone) cl α h = some (v, h')) :
    Res P (execOp a.eval o) w (Post ng n0 ρ h w h' v) := by
  have liftV : ∀ {sv : Sem Value}, execOp a.eval o = (do pure (.value (← sv))) → (∃ v' w', sv.run P w = .ok v' w' ∧ Post ng n0 ρ h w h' v v' w') → Res P (execOp a.eval o) w (Post ng n0 ρ h w h' v) := by
    intro sv he ⟨v', w', h1, h2⟩
    exact Or.inl ⟨v', w', by rw [he]; simp [h1], h2⟩
  have liftU : ∀ {sv : Sem Unit}, execOp a.eval o = (do sv; pure .skip) → (∃ w', sv.run P w = .ok () w' ∧ Post ng n0 ρ h w h' v undef w') → Res P (execOp a.eval o) w (Post ng n0 ρ h w h' v) := by
    intro sv he ⟨w', h1, h2⟩
    exact Or.inr (Or.inl ⟨w', by rw [he]; simp [h1], h2⟩)
  obtain ⟨dst, op, type, pos, after, guard⟩ := o
  cases op <;> simp only [loudE] at hl <;> first | (cases hl; done) | skip
  case store t x y => exact liftU rfl (store_sound c s hl)
  case mapUpdate t m k x => exact liftU rfl (update_sound c s hl)
  case insert t m k x => exact liftU rfl (update_sound c s hl)
  case makeMap t r => exact liftV rfl (map_sound s hl)
  case range t x => exact liftV rfl (range_sound c s hl)
  case next x b => exact liftV rfl (next_sound c s hl)
  case convert st dt x => exact liftV rfl (str_sound c s hl)
  case call k => exact call_sound hn hcl hc c s hl _ rfl
end
end Go.Ev
