/- A part of an evaluator of runs, and that it is right. -/
import Derived.Test.YtcfneeeieofkeaaGreatDoorEvD
set_option linter.unusedVariables false
set_option linter.unusedSimpArgs false
set_option linter.unusedSectionVars false
namespace Go.Ev
variable [Den]
section
variable {P : Program} {eqs : List Nat} {clone : Nat} {n0 ng : Nat} {ρ : Rho} {h : H} {α : A} {a : Act} {w w' : World}

def NoName (P : Program) : Prop := ∀ f ∈ P.funcs.toList, (f.name == "runtime.NumGoroutine") = false

theorem callFunc_enter (hn : NoName P) {f : FuncId} {fn : Func} {b : Code} (hf : P.funcs[f]? = some fn) (hb : fn.body = some b) (args : Array Value) : (callFunc f args).run P w = .ok (.enter f args) w := by
  have hm : fn ∈ P.funcs.toList := by
    have := Array.mem_of_getElem? hf
    simpa using this
  have h1 := hn fn hm
  simp [callFunc, hf, hb]
  intro e
  rw [e] at h1
  cases h1

theorem callV_sound (hn : NoName P) (hcl : CloneOk P clone) {cl : CallT} (hc : CallOk P ng n0 cl) (s : Sim ng n0 ρ h w) {f fv : Value} {args args' : List Value} {v : Value} {h' : H} (hf : VR ρ f fv) (ha : VRs ρ args args')
    (hl : callV (Env.of P eqs clone) f args cl h = some (v, h')) :
    Res P (do let d ← Deferred.ofValue fv ⟨args'⟩; invoke d.target d.args) w (Post ng n0 ρ h w h' v) := by
  unfold callV at hl
  split at hl
  · rename_i g fa fb
    cases hf with
    | func _ _ ys _ ws hfa hfb =>
      have hargs := (hfa.append ha).append hfb
      have he : (do let d ← Deferred.ofValue (.func (.func g) ⟨ys⟩ ⟨ws⟩) ⟨args'⟩; invoke d.target d.args : Sem Next) = callFunc g ⟨ys ++ args' ++ ws⟩ := by
        simp [Deferred.ofValue, invoke]
      rw [he]
      rw [bi_eq] at hl
      split at hl
      · rename_i hg
        have hg : g = clone := Nat.eq_of_beq_eq_true hg
        subst hg
        rw [bi_none_some] at hl
        obtain ⟨hz, hl⟩ := hl
        obtain ⟨v', w', h1, h2⟩ := clone_sound hcl (fun e => by rw [e] at hz; cases hz) s hargs hl
        exact Or.inl ⟨v', w', h1, h2⟩
      · obtain ⟨⟨fn, b, hf, hb⟩, hcalls⟩ := hc _ _ _ _ _ hl
        exact Or.inr (Or.inr ⟨g, _, w, callFunc_enter hn hf hb _, hcalls ρ w _ s hargs⟩)
  · cases hl

theorem call_sound (hn : NoName P) (hcl : CloneOk P clone) {cl : CallT} (hc : CallOk P ng n0 cl) (c : Ctx P eqs ρ α a) (s : Sim ng n0 ρ h w) {k : Call} {v : Value} {h' : H} (hl : lCall k (Env.of P eqs clone) cl α h = some (v, h')) (o : Oper) (ho : o.op = .call k) :
    Res P (execOp a.eval o) w (Post ng n0 ρ h w h' v) := by
  unfold lCall at hl
  rw [ob_some] at hl
  obtain ⟨args, hargs0, hl⟩ := hl
  have hargs := c.opvs hargs0
  clear hargs0
  obtain ⟨cal, kargs, kts⟩ := k
  simp only at hl hargs
  have hrun : ∀ b, cal = .builtin b → (execOp a.eval o).run P w = (builtin b kts o.type (kargs.map fun | .const _ => true | _ => false) (kargs.map a.eval)).run P w := by
    intro b hb
    simp only [execOp, ho, resolve, hb, Sem.run_bind, Sem.run_pure, Result.andThen_ok, invoke]
    rfl
  have hka : (kargs.map a.eval) = ⟨kargs.toList.map a.eval⟩ := by apply Array.ext'; simp
  generalize kargs.toList.map a.eval = vs at *
  have lift : ∀ {b : Builtin} {sv : Sem Value}, cal = .builtin b → builtin b kts o.type (kargs.map fun | .const _ => true | _ => false) ⟨vs⟩ = (do pure (.value (← sv))) →
      (∃ v' w', sv.run P w = .ok v' w' ∧ Post ng n0 ρ h w h' v v' w') → Res P (execOp a.eval o) w (Post ng n0 ρ h w h' v) := by
    intro b sv hb he ⟨v', w', h1, h2⟩
    refine Or.inl ⟨v', w', ?_, h2⟩
    rw [hrun b hb, hka, he]
    simp [h1]
  split at hl
  · rename_i f
    rw [ob_some] at hl
    obtain ⟨fv, hf0, hl⟩ := hl
    have := callV_sound hn hcl hc s (c.opv hf0) hargs hl
    have he : execOp a.eval o = (do let d ← Deferred.ofValue (a.eval f) ⟨vs⟩; invoke d.target d.args) := by
      simp only [execOp, ho, resolve, hka]
    rw [he]
    exact this
  · split at hl
    · rename_i sv x
      split at hl
      · rename_i t u hts
        cases hargs with
        | cons _ _ _ _ h1 h2 => cases h2 with
          | cons _ _ _ _ h2 h3 =>
            cases h3
            have hk : kts = #[t, u] := by apply Array.ext'; exact hts
            subst hk
            exact lift rfl rfl (appendE_sound s h1 h2 hl)
      · cases hl
    · cases hl
  · split at hl
    · rename_i sv x
      split at hl
      · rename_i t u hts
        cases hargs with
        | cons _ _ _ _ h1 h2 => cases h2 with
          | cons _ _ _ _ h2 h3 =>
            cases h3
            have hk : kts = #[t, u] := by apply Array.ext'; exact hts
            subst hk
            exact lift rfl rfl (copy_sound s h1 h2 hl)
      · cases hl
    · cases hl
  · split at hl
    · rename_i m k
      split at hl
      · rename_i t ts hts
        cases hargs with
        | cons _ _ _ _ h1 h2 => cases h2 with
          | cons _ _ _ _ h2 h3 =>
            cases h3
            have hk : kts = ⟨t :: ts⟩ := by apply Array.ext'; exact hts
            subst hk
            exact lift rfl rfl (delete_sound s h1 h2 hl)
      · cases hl
    · cases hl
  · split at hl
    · rename_i t hts
      rw [ob_some] at hl
      obtain ⟨r, hr, hl⟩ := hl
      have hk : kts = #[t] := by apply Array.ext'; exact hts
      subst hk
      split at hl
      · rename_i kt et hty
        injection hl with hl; injection hl with e1 e2; subst e1; subst e2
        cases hargs with
        | cons _ _ _ _ h1 h2 =>
          cases h2; cases h1
          exact lift rfl rfl ⟨_, w, by simp [Builtin.len_, run_under hr, hty, goInt], ρ, s, Step.refl _ _ _, .int _ _⟩
      · rename_i kt et b hty
        rw [om_some] at hl
        obtain ⟨e, he, hl⟩ := hl
        injection hl with e1 e2; subst e1; subst e2
        cases hargs with
        | cons _ _ _ _ h1 h2 =>
          cases h2
          cases h1 with
          | map b B hb =>
            obtain ⟨es', q1, q2, _, q3, hER⟩ := mapAt_sound s hb he
            have hg : (getObj B).run P w = .ok (.map ⟨es'⟩ e.2) w := run_getObj_map (w := w) B _ _ q3
            refine lift rfl rfl ⟨.int .i64 (Int.ofNat e.1.length), w, ?_, ρ, s, Step.refl _ _ _, .int _ _⟩
            simp [Builtin.len_, run_under hr, hty, goInt, hg, hER.length]
      · cases hl
    · cases hl
  · cases hl

theorem loud_sound (hn : NoName P) (hcl : CloneOk P clone) {cl : CallT} (hc : CallOk P ng n0 cl) (c : Ctx P eqs ρ α a) (s : Sim ng n0 ρ h w) {o : Oper} {v : Value} {h' : H} (hl : loudE o.op (Env.of P eqs clone) cl α h = some (v, h')) :
    Res P (execOp a.eval o) w (Post ng n0 ρ h w h' v) := by
  have liftV : ∀ {sv : Sem Value}, execOp a.eval o = (do pure (.value (← sv))) → (∃ v' w', sv.run P w = .ok v' w' ∧ Post ng n0 ρ h w h' v v' w') → Res P (execOp a.eval o) w (Post ng n0 ρ h w h' v) := by
    intro sv he ⟨v', w', h1, h2⟩
    exact Or.inl ⟨v', w', by rw [he]; simp [h1], h2⟩
  have liftU : ∀ {sv : Sem Unit}, execOp a.eval o = (do sv; pure .skip) → (∃ w', sv.run P w = .ok () w' ∧ Post ng n0 ρ h w h' v undef w') → Res P (execOp a.eval o) w (Post ng n0 ρ h w h' v) := by
    intro sv he ⟨w', h1, h2⟩
    exact Or.inr (Or.inl ⟨w', by rw [he]; simp [h1], h2⟩)
  obtain ⟨dst, op, type, pos, after, guard⟩ := o
  cases op <;> simp only [loudE] at hl <;> first | (cases hl; done) | skip
  case store t x y => exact liftU rfl (store_sound c s hl)
  case mapUpdate t m k x => exact liftU rfl (update_sound c s hl)
  case insert t m k x => exact liftU rfl (update_sound c s hl)
  case makeMap t r => exact liftV rfl (map_sound s hl)
  case range t x => exact liftV rfl (range_sound c s hl)
  case next x b => exact liftV rfl (next_sound c s hl)
  case call k => exact call_sound hn hcl hc c s hl _ rfl
end
end Go.Ev
