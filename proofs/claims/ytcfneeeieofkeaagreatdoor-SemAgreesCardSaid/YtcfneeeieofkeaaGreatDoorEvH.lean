/- A part of an evaluator of runs, and that it is right. -/
import Derived.Test.YtcfneeeieofkeaaGreatDoorEvG
set_option linter.unusedVariables false
set_option linter.unusedSimpArgs false
set_option linter.unusedSectionVars false
namespace Go.Ev
variable [Den]
section
variable {P : Program} {eqs : List Nat} {clone : Nat} {n0 N : Nat} {ρ : Rho} {h : H} {α : A} {a : Act} {w w' : World}

theorem isRec_run {o : Oper} (h : isRec o.op = true) (w : World) : (execOp a.eval o).run P w = .ok .recover w := by
  unfold isRec at h
  split at h
  · rename_i c hop
    split at h
    · rename_i hcal
      simp only [execOp, hop, resolve, hcal, Sem.run_bind, Sem.run_pure, Result.andThen_ok, invoke, builtin]
    · cases h
  · cases h

theorem upon_not {o : Oper} {next : Act → World → Prop} {Q : Exit → Act → World → Prop} {w1 : World} (h : o.upon P a next Q (.ok .recover w1)) : False := h

theorem seqD_cons (E : Env) (cl : CallT) (N : Nat) (ops : List Oper) (o : Oper) (l : List Oper) (α : A) (h : H) : seqD E cl N ops (o :: l) α h = ob (stepD E cl N ops o α h) fun p => seqD E cl N ops l p.1 p.2 := rfl

theorem seqD_sound (ok : Ok P eqs clone) {cl : CallT} (hc : CallOk P P.globals.size n0 cl) (ops : List Oper) {cs : List Frame} (hcs : recoverD cs = none) {Q : Exit → Act → List Frame → World → Prop} {α' : A} {h' : H} : ∀ (l : List Oper) (i : Nat) (α : A) (h : H) (ρ : Rho) (a : Act) (w : World),
    ops.drop i = l → St P n0 ρ N α h a w → seqD (Env.of P eqs clone) cl N ops l α h = some (α', h') →
    (∀ ρ' a' w', St P n0 ρ' N α' h' a' w' → Step ρ h w ρ' h' w' → Q .normal a' cs w') → wpOpsS P ⟨ops⟩ Q (List.range' i l.length) a cs w := by
  intro l
  induction l with
  | nil =>
    intro i α h ρ a w _ s hl hQ
    injection hl with hl; injection hl with e1 e2; subst e1; subst e2
    exact hQ ρ a w s (Step.refl _ _ _)
  | cons o l ih =>
    intro i α h ρ a w hdrop s hl hQ
    rw [seqD_cons, ob_some] at hl
    obtain ⟨⟨α1, h1⟩, hst, hl⟩ := hl
    have hoi : ops[i]? = some o := by
      have := congrArg (fun q => q[0]?) hdrop
      simpa using this
    have hdrop' : ops.drop (i + 1) = l := by
      rw [← List.drop_drop, hdrop]; rfl
    have hoi' : (⟨ops⟩ : Array Oper)[i]? = some o := by simpa using hoi
    rw [List.length_cons, List.range'_succ]
    unfold stepD at hst
    rw [bi_eq] at hst
    split at hst
    · rename_i hrec
      rw [bi_some_none, ob_some] at hst
      obtain ⟨hd, b, hb, hst⟩ := hst
      have hd := dst_ok hd
      have hw := wanted_sound s.slot hb
      injection hst with hst; injection hst with e1 e2; subst e1; subst e2
      simp only [wpOpsS, hoi', hw]
      cases b
      · simp only [Bool.false_eq_true, if_false]
        exact ih (i + 1) _ _ ρ _ w hdrop' (s.put s.sim (Le.refl _) hd (.tuple _ _ .nil)) hl hQ
      · simp only [if_true, isRec_run hrec, hcs]
        exact ih (i + 1) _ _ ρ _ w hdrop' (s.put s.sim (Le.refl _) hd .nili) hl hQ
    · unfold stepE at hst
      rw [bi_some_none, ob_some] at hst
      obtain ⟨hd, b, hb, hst⟩ := hst
      have hd := dst_ok hd
      have hw := wanted_sound s.slot hb
      simp only [wpOpsS, hoi', hw]
      cases b
      · rw [bi_false] at hst
        injection hst with hst; injection hst with e1 e2; subst e1; subst e2
        simp only [Bool.false_eq_true, if_false]
        exact ih (i + 1) _ _ ρ _ w hdrop' (s.put s.sim (Le.refl _) hd (.tuple _ _ .nil)) hl hQ
      · rw [bi_true] at hst
        simp only [if_true]
        have hwp := stepK_sound ok hc s hd hst (next := fun a' w' => wpOpsS P ⟨ops⟩ Q (List.range' (i + 1) l.length) a' cs w') (Q := fun e a' w' => Q e a' cs w') fun ρ' a' w' s' st' =>
          ih (i + 1) _ _ ρ' a' w' hdrop' s' hl fun ρ'' a'' w'' s'' st'' => hQ ρ'' a'' w'' s'' (st'.trans st'')
        unfold Oper.wp at hwp
        generalize (execOp a.eval o).run P w = r at *
        split
        · exact (upon_not hwp).elim
        · exact hwp

theorem evD_ok (ok : Ok P eqs clone) {cl : CallT} (hc : CallOk P P.globals.size n0 cl) {sq dr : RegT} (hs : RegOk P n0 N false sq) (hd : RegOk P n0 N true dr) {cs : List Frame} (hcs : recoverD cs = none) :
    ∀ (c : Code) (α : A) (h : H) (e : Ex) (α' : A) (h' : H), evD (Env.of P eqs clone) cl N sq dr c α h = some (e, α', h') → ∀ ρ a w, St P n0 ρ N α h a w → ∀ Q : Exit → Act → List Frame → World → Prop,
      (∀ ρ' a' w', St P n0 ρ' N α' h' a' w' → Step ρ h w ρ' h' w' → Q (exOf e) a' cs w') → c.wpS P Q a cs w := by
  have plain : ∀ (c : Code) (α : A) (h : H) (e : Ex) (α' : A) (h' : H), evC (Env.of P eqs clone) sq dr c α h = some (e, α', h') → ∀ ρ a w, St P n0 ρ N α h a w → ∀ Q : Exit → Act → List Frame → World → Prop,
      (∀ ρ' a' w', St P n0 ρ' N α' h' a' w' → Step ρ h w ρ' h' w' → Q (exOf e) a' cs w') → c.wpS P Q a cs w := by
    intro c α h e α' h' hl ρ a w s Q hQ
    exact wpS_of_wp (evC_ok ok hs hd c α h e α' h' hl ρ a w s (fun e a' w' => Q e a' cs w') hQ)
  intro c
  induction c with
  | seq x y ix iy =>
    intro α h e α' h' hl ρ a w s Q hQ
    have hl : ob (evD (Env.of P eqs clone) cl N sq dr x α h) (fun r => Ex.casesOn (motive := fun _ => Out) r.1 (evD (Env.of P eqs clone) cl N sq dr y r.2.1 r.2.2) (fun i => some (.exit i, r.2)) (some (.ret, r.2))) = some (e, α', h') := hl
    rw [ob_some] at hl
    obtain ⟨⟨e1, α1, h1⟩, hr, hl⟩ := hl
    refine wpS_seq (ix α h e1 α1 h1 hr ρ a w s _ fun ρ' a' w' s' st' => ?_)
    cases e1 with
    | normal => exact iy α1 h1 e α' h' hl ρ' a' w' s' Q fun ρ'' a'' w'' s'' st'' => hQ ρ'' a'' w'' s'' (st'.trans st'')
    | exit i =>
      injection hl with hl; injection hl with e1 e2; injection e2 with e2 e3; subst e1; subst e2; subst e3
      exact hQ ρ' a' w' s' st'
    | ret =>
      injection hl with hl; injection hl with e1 e2; injection e2 with e2 e3; subst e1; subst e2; subst e3
      exact hQ ρ' a' w' s' st'
  | cond c x y ix iy =>
    intro α h e α' h' hl ρ a w s Q hQ
    have hl : ob (opv c (Env.of P eqs clone) α) (fun v => match v with | .bool t => bi t (evD (Env.of P eqs clone) cl N sq dr x α h) (evD (Env.of P eqs clone) cl N sq dr y α h) | _ => none) = some (e, α', h') := hl
    rw [ob_some] at hl
    obtain ⟨v, hv, hl⟩ := hl
    have hv' := (s.ctx ok).opv hv
    split at hl
    · rename_i t
      have hcv : a.eval c = .bool t := by
        generalize a.eval c = ec at hv'
        cases hv'; rfl
      refine wpS_cond hcv ?_
      cases t
      · exact iy α h e α' h' hl ρ a w s Q hQ
      · exact ix α h e α' h' hl ρ a w s Q hQ
    · cases hl
  | region id ops d =>
    intro α h e α' h' hl ρ a w s Q hQ
    cases d
    · have hl : om (seqD (Env.of P eqs clone) cl N ops.toList ops.toList α h) (fun r => (Ex.normal, r)) = some (e, α', h') := hl
      rw [om_some] at hl
      obtain ⟨⟨α1, h1⟩, hr, hl⟩ := hl
      injection hl with e1 e2; injection e2 with e2 e3; subst e1; subst e2; subst e3
      refine wpS_region ?_
      have := seqD_sound ok hc ops.toList hcs ops.toList 0 α h ρ a w rfl s hr hQ
      rw [List.range_eq_range']
      simpa using this
    · exact plain _ α h e α' h' hl ρ a w s Q hQ
  | _ => exact plain _

theorem bodyD_sound (ok : Ok P eqs clone) {cl : CallT} (hc : CallOk P P.globals.size n0 cl) (hdr : ∀ N, RegOk P n0 N true (regD (Env.of P eqs clone) cl N)) (s : Sim P.globals.size n0 ρ h w) {f : FuncId} {fn : Func} (hf : P.funcs[f]? = some fn)
    {args args' : List Value} {h' : H} (hv : VRs ρ args args') (hl : bodyD (Env.of P eqs clone) cl fn args h = some h') :
    ∃ c, fn.body = some c ∧ CallsD P f ⟨args'⟩ .returning w fun e u' w' => (∃ v, e = .returned v) ∧ u' = .returning ∧ ∃ ρ', Sim P.globals.size n0 ρ' h' w' ∧ Step ρ h w ρ' h' w' := by
  unfold bodyD at hl
  rw [ob_some] at hl
  obtain ⟨c, hb, hl⟩ := hl
  rw [bi_some_none, ob_some] at hl
  obtain ⟨hle, ⟨e1, α1, h1⟩, hr, hl⟩ := hl
  have hle := Nat.le_of_ble_eq_true hle
  refine ⟨c, hb, callsD_of_wpS hf hb fun c₀ cs hu => ?_⟩
  have hcs : recoverD (c₀ :: cs) = none := by simp [recoverD, hu]
  have hsq : RegOk P n0 fn.ntmps false (fun ops => seqE (Env.of P eqs clone) cl fn.ntmps ops ops) := fun id ops α h α' h' hl ρ a w s Q hQ => region_seq ok hc s hl hQ
  refine evD_ok ok hc hsq (hdr _) hcs c _ _ _ _ _ hr ρ _ w (init_st s hv hle) _ fun ρ' a' w' s' st' => ?_
  have fin : endD (Env.of P eqs clone) fn α1 h1 = some h' → a'.defers = [] ∧ ∃ u', c₀ :: cs = { c₀ with mode := u' } :: cs ∧ ∃ v, (results fn a'.tmps).run P w' = .ok v w' ∧ ((∃ v', Ending.returned v = .returned v') ∧ u' = .returning ∧ ∃ ρ', Sim P.globals.size n0 ρ' h' w' ∧ Step ρ h w ρ' h' w') := by
    intro he
    unfold endD at he
    have hd := s'.defs
    cases hα : α1.d with
    | nil =>
      rw [hα] at he hd
      have he : om (resE (Env.of P eqs clone) α1 h1 fn.results.toList) (fun _ => h1) = some h' := he
      rw [om_some] at he
      obtain ⟨vs, hvs, e⟩ := he
      subst e
      obtain ⟨v, h2, _⟩ := res_sound (P := P) s' hvs
      refine ⟨by generalize a'.defers = q at hd; cases hd; rfl, .returning, ?_, v, h2, ⟨v, rfl⟩, rfl, ρ', s'.sim, st'⟩
      rw [← hu]
    | cons d ds => rw [hα] at he; cases he
  cases e1 with
  | normal => exact fin hl
  | exit i => cases hl
  | ret => exact fin hl

theorem runDefers_cons (E : Env) (cl : CallT) (d : Nat × List Value) (l : List (Nat × List Value)) (h : H) : runDefers E cl (d :: l) h = ob (E.fn.get d.1) fun fn => ob (bodyD E cl fn d.2 h) fun h => runDefers E cl l h := rfl

theorem leaves_sound (ok : Ok P eqs clone) {cl : CallT} (hc : CallOk P P.globals.size n0 cl) (hdr : ∀ N, RegOk P n0 N true (regD (Env.of P eqs clone) cl N)) {fn : Func} {tmps : Array Value} {R : Ending → World → Prop} {h' : H} :
    ∀ (l : List (Nat × List Value)) (m : List Deferred) (ρ : Rho) (h : H) (w : World), DR ρ l m → Sim P.globals.size n0 ρ h w → runDefers (Env.of P eqs clone) cl l h = some h' →
    (∀ ρ' w', Sim P.globals.size n0 ρ' h' w' → Step ρ h w ρ' h' w' → ∃ v, (results fn tmps).run P w' = .ok v w' ∧ R (.returned v) w') → Leaves P fn tmps R m .returning w := by
  intro l
  induction l with
  | nil =>
    intro m ρ h w hd s hl hK
    injection hl with hl; subst hl
    cases hd
    exact hK ρ w s (Step.refl _ _ _)
  | cons d l ih =>
    intro m ρ h w hd s hl hK
    rw [runDefers_cons, ob_some] at hl
    obtain ⟨gn, hg, hl⟩ := hl
    rw [ob_some] at hl
    obtain ⟨h1, hb, hl⟩ := hl
    have hg := fn_spec hg
    cases hd with
    | cons f args dargs cap _ m hv hd =>
      obtain ⟨c, hbody, hcalls⟩ := bodyD_sound ok hc hdr s hg hv hb
      refine ⟨by simp, .func f, ⟨cap⟩, f, ⟨dargs ++ cap⟩, rfl, ?_, ?_⟩
      · have := callFunc_enter (w := w) ok.names hg hbody (⟨dargs⟩ ++ ⟨cap⟩)
        simp only [invoke]
        simpa using this
      · refine hcalls.mono fun e u' w' ⟨⟨v, he⟩, hu, ρ', s', st'⟩ => ?_
        subst he; subst hu
        exact ih m ρ' h1 w' (hd.mono st'.ext) s' hl fun ρ'' w'' s'' st'' => hK ρ'' w'' s'' (st'.trans st'')

theorem body_sound (ok : Ok P eqs clone) {cl : CallT} (hc : CallOk P P.globals.size n0 cl) (hdr : ∀ N, RegOk P n0 N true (regD (Env.of P eqs clone) cl N)) (s : Sim P.globals.size n0 ρ h w) {f : FuncId} {fn : Func} (hf : P.funcs[f]? = some fn)
    {args args' : List Value} {v : Value} {h' : H} (hv : VRs ρ args args') (hl : bodyE (Env.of P eqs clone) cl fn args h = some (v, h')) :
    (∃ c, fn.body = some c) ∧ Calls P f ⟨args'⟩ w fun e w' => ∃ v', e = .returned v' ∧ Post P.globals.size n0 ρ h w h' v v' w' := by
  unfold bodyE at hl
  rw [ob_some] at hl
  obtain ⟨c, hb, hl⟩ := hl
  rw [bi_some_none, ob_some] at hl
  obtain ⟨hle, ⟨e1, α1, h1⟩, hr, hl⟩ := hl
  have hle := Nat.le_of_ble_eq_true hle
  refine ⟨⟨c, hb⟩, calls_of_wp_defers hf hb ?_⟩
  have hsq : RegOk P n0 fn.ntmps false (fun ops => seqE (Env.of P eqs clone) cl fn.ntmps ops ops) := fun id ops α h α' h' hl ρ a w s Q hQ => region_seq ok hc s hl hQ
  refine evC_ok ok hsq (hdr _) c _ _ _ _ _ hr ρ _ w (init_st s hv hle) _ fun ρ' a' w' s' st' => ?_
  have fin : doneE (Env.of P eqs clone) cl fn α1 h1 = some (v, h') → Leaves P fn a'.tmps (fun e w' => ∃ v', e = .returned v' ∧ Post P.globals.size n0 ρ h w h' v v' w') a'.defers .returning w' := by
    intro he
    unfold doneE at he
    rw [ob_some] at he
    obtain ⟨h2, hrd, he⟩ := he
    rw [om_some] at he
    obtain ⟨vs, hvs, he⟩ := he
    injection he with e1 e2; subst e1; subst e2
    refine leaves_sound ok hc hdr α1.d a'.defers ρ' h1 w' s'.defs s'.sim hrd fun ρ'' w'' s'' st'' => ?_
    have s3 : St P n0 ρ'' fn.ntmps α1 h2 a' w'' := ⟨s'', s'.size, fun t u hu => let ⟨u', k1, k2⟩ := s'.slot t u hu; ⟨u', k1, k2.mono st''.ext⟩, s'.defs.mono st''.ext⟩
    obtain ⟨v', k1, k2⟩ := res_sound (P := P) s3 hvs
    exact ⟨v', k1, v', rfl, ρ'', s'', st'.trans st'', k2⟩
  cases e1 with
  | normal => exact fin hl
  | exit i => cases hl
  | ret => exact fin hl

def DrawOk (P : Program) (n0 : Nat) (eqs : List Nat) (clone : Nat) : Prop := ∀ cl, CallOk P P.globals.size n0 cl → ∀ N, RegOk P n0 N true (regD (Env.of P eqs clone) cl N)

theorem callN_ok (ok : Ok P eqs clone) (hdr : DrawOk P n0 eqs clone) : ∀ n, CallOk P P.globals.size n0 (callN (Env.of P eqs clone) n) := by
  intro n
  induction n with
  | zero => intro f args h v h' hl; cases hl
  | succ n ih =>
    intro f args h v h' hl
    have hl : Option.casesOn (motive := fun _ => Option (Value × H)) (lookC DenD.calls f args) (ob ((Env.of P eqs clone).fn.get f) (fun fn => bodyE (Env.of P eqs clone) (callN (Env.of P eqs clone) n) fn args h)) (fun c => bi (needsE h c.need) (some (c.v, h)) none) = some (v, h') := hl
    cases hk : lookC DenD.calls f args with
    | some c =>
      rw [hk] at hl
      have hl : bi (needsE h c.need) (some (c.v, h)) none = some (v, h') := hl
      rw [bi_some_none] at hl
      obtain ⟨hnd, hl⟩ := hl
      injection hl with hl
      injection hl with e1 e2
      subst e1; subst e2
      obtain ⟨hm, rfl, h2⟩ := lookC_mem hk
      have co := ok.calls c hm
      refine ⟨co.body, fun ρ w args' s hv => ?_⟩
      have := co.call w s.ng_le (Nat.le_trans s.lowOk.low s.low) s.lowOk.fix (needsE_cells s hnd co.need)
      rw [syEqL_dv h2 hv] at this
      refine this.mono fun e w' ⟨he, hb⟩ => ⟨_, he, ρ, (s.below hb).1, (s.below hb).2, okV_VR co.val⟩
    | none =>
    rw [hk] at hl
    have hl : ob ((Env.of P eqs clone).fn.get f) (fun fn => bodyE (Env.of P eqs clone) (callN (Env.of P eqs clone) n) fn args h) = some (v, h') := hl
    rw [ob_some] at hl
    obtain ⟨fn, hf, hl⟩ := hl
    have hf := fn_spec hf
    refine ⟨?_, fun ρ w args' s hv => (body_sound ok ih (hdr _ ih) s hf hv hl).2⟩
    unfold bodyE at hl
    rw [ob_some] at hl
    obtain ⟨c, hb, _⟩ := hl
    exact ⟨fn, c, hf, hb⟩
end
end Go.Ev
