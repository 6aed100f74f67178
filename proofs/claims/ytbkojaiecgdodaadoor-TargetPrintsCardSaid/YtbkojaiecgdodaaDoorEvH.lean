/- A part of an evaluator of runs, and that it is right. -/
import Derived.Test.YtbkojaiecgdodaaDoorEvPa
import Derived.RangeFuncLeaves
set_option linter.unusedVariables false
set_option linter.unusedSimpArgs false
set_option linter.unusedSectionVars false
namespace Go.Ev
variable [Den]
section
variable {P : Program} {eqs : List Nat} {clone : Sp} {n0 N : Nat} {ρ : Rho} {h : H} {α : A} {a : Act} {w w' : World}

theorem isRec_run {o : Oper} (h : isRec o.op = true) (w : World) : (execOp a.eval o).run P w = .ok .recover w := by
  unfold isRec at h
  split at h
  · rename_i c hop
    split at h
    · rename_i hcal
      simp only [execOp, hop, resolve, hcal, Sem.run_bind, Sem.run_pure, Result.andThen_ok, invoke, builtin]
    · cases h
  · cases h


theorem seqD_cons (E : Env) (cl : CallT) (N : Nat) (ops : List Oper) (o : Oper) (l : List Oper) (α : A) (h : H) (s : DSt) : seqD E cl N ops (o :: l) α h s = ob (stepD E cl N ops o α h s) fun p => seqD E cl N ops l p.1 p.2.1 p.2.2 := rfl

/-- the frames of those who called, by what is still to recover -/
def csAt (csS csN : List Frame) (s : DSt) : List Frame := match s with
  | some _ => csS
  | none => csN
def SOk (csS csN : List Frame) (v' : Value) (ρ : Rho) (s : DSt) : Prop := ∀ v, s = some v → VR ρ v v' ∧ recoverD csS = some (v', csN)
theorem SOk.mono {ρ ρ' : Rho} {csS csN : List Frame} {v' : Value} {s : DSt} (L : Le ρ ρ') (k : SOk csS csN v' ρ s) : SOk csS csN v' ρ' s := fun v hv => ⟨(k v hv).1.mono L, (k v hv).2⟩
theorem SOk.none (csS csN : List Frame) (v' : Value) (ρ : Rho) : SOk csS csN v' ρ none := fun v hv => by cases hv

theorem seqD_sound (ok : Ok P eqs clone) {cl : CallT} (ops : List Oper) {csS csN : List Frame} {v' : Value} (hN : recoverD csN = none) {Q : Exit → Act → List Frame → World → Prop} {α' : A} {h' : H} {s1 : DSt} : ∀ (l : List Oper) (i : Nat) (α : A) (h : H) (s0 : DSt) (ρ : Rho) (a : Act) (w : World),
    ops.drop i = l → St P n0 ρ N α h a w → SOk csS csN v' ρ s0 → seqD (Env.of P eqs clone) cl N ops l α h s0 = some (α', h', s1) →
    (∀ ρ' a' w', St P n0 ρ' N α' h' a' w' → Step ρ h w ρ' h' w' → SOk csS csN v' ρ' s1 → (∀ v, s1 = some v → s0 = some v) → Q .normal a' (csAt csS csN s1) w') → wpOpsSIn Fence.wide 0 P ⟨ops⟩ Q (List.range' i l.length) a (csAt csS csN s0) w := by
  intro l
  induction l with
  | nil =>
    intro i α h s0 ρ a w _ s hs hl hQ
    injection hl with hl; injection hl with e1 e2; injection e2 with e2 e3; subst e1; subst e2; subst e3
    exact hQ ρ a w s (Step.refl _ _ _) hs (fun _ h => h)
  | cons o l ih =>
    intro i α h s0 ρ a w hdrop s hs hl hQ
    rw [seqD_cons, ob_some] at hl
    obtain ⟨⟨α1, h1, s2⟩, hst, hl⟩ := hl
    have hoi : ops[i]? = some o := by
      have := congrArg (fun q => q[0]?) hdrop
      simpa using this
    have hdrop' : ops.drop (i + 1) = l := by
      rw [← List.drop_drop, hdrop]; rfl
    have hoi' : (⟨ops⟩ : Array Oper)[i]? = some o := by simpa using hoi
    rw [List.length_cons, List.range'_succ]
    unfold stepD at hst
    rw [bi_eq] at hst
    simp only [wpOpsSIn, hoi']
    refine ⟨fun _ _ => trivial, ?_⟩
    split at hst
    · rename_i hrec
      rw [bi_some_none, ob_some] at hst
      obtain ⟨hd, b, hb, hst⟩ := hst
      have hd := dst_ok hd
      have hw := wanted_sound s.slot hb
      injection hst with hst
      rw [hw]
      cases b
      · injection hst with e1 e2; injection e2 with e2 e3; subst e1; subst e2; subst e3
        simp only [Bool.false_eq_true, if_false]
        exact ih (i + 1) _ _ _ ρ _ w hdrop' (s.put s.sim (Le.refl _) hd (.tuple _ _ .nil)) hs hl hQ
      · injection hst with e1 e2; injection e2 with e2 e3; subst e1; subst e2; subst e3
        simp only [if_true, isRec_run hrec]
        cases s0 with
        | none =>
          simp only [csAt, hN]
          exact ih (i + 1) _ _ none ρ _ w hdrop' (s.put s.sim (Le.refl _) hd .nili) (SOk.none _ _ _ _) hl hQ
        | some v =>
          obtain ⟨hv, hr⟩ := hs v rfl
          simp only [csAt, hr]
          exact ih (i + 1) _ _ none ρ _ w hdrop' (s.put s.sim (Le.refl _) hd hv) (SOk.none _ _ _ _) hl fun ρ' a' w' s' st' so' hb' => hQ ρ' a' w' s' st' so' fun v h => by have := hb' v h; cases this
    · rw [bi_some_none, om_some] at hst
      obtain ⟨hk, ⟨α2, h2⟩, hst, he⟩ := hst
      injection he with e1 e2; injection e2 with e2 e3; subst e1; subst e2; subst e3
      have hk : kindOf (Env.of P eqs clone) o.op < 3 ∨ isStore o.op = true := by
        rw [bi_eq] at hk
        split at hk
        · rename_i hk2; exact Or.inl (Nat.le_of_ble_eq_true hk2)
        · exact Or.inr hk
      unfold stepE at hst
      rw [bi_some_none, ob_some] at hst
      obtain ⟨hd, b, hb, hst⟩ := hst
      have hd := dst_ok hd
      have hw := wanted_sound s.slot hb
      rw [hw]
      cases b
      · rw [bi_false] at hst
        injection hst with hst; injection hst with e1 e2; subst e1; subst e2
        simp only [Bool.false_eq_true, if_false]
        exact ih (i + 1) _ _ _ ρ _ w hdrop' (s.put s.sim (Le.refl _) hd (.tuple _ _ .nil)) hs hl hQ
      · rw [bi_true] at hst
        simp only [if_true]
        rcases (hk.elim (fun hk => stepV_res ok s hk hd hst) (fun hk => stepS_res ok s hk hd hst)) with ⟨v', w', h1, ρ', s', st'⟩ | ⟨w', h1, ρ', s', st'⟩
        · rw [h1]
          exact ih (i + 1) _ _ _ ρ' _ w' hdrop' s' (hs.mono st'.ext) hl fun ρ'' a'' w'' s'' st'' so'' hb'' => hQ ρ'' a'' w'' s'' (st'.trans st'') so'' hb''
        · rw [h1]
          exact ih (i + 1) _ _ _ ρ' _ w' hdrop' s' (hs.mono st'.ext) hl fun ρ'' a'' w'' s'' st'' so'' hb'' => hQ ρ'' a'' w'' s'' (st'.trans st'') so'' hb''

theorem evD_ok (ok : Ok P eqs clone) {cl : CallT} (hc : CallOk P P.globals.size n0 cl) {sq dr : RegT} (hs : RegOk P n0 N none false sq) (hd : RegOk P n0 N none true dr) {csS csN : List Frame} {v' : Value} (hN : recoverD csN = none) :
    ∀ (c : Code) (α : A) (h : H) (s0 : DSt) (e : Ex) (α' : A) (h' : H) (s1 : DSt), evD (Env.of P eqs clone) cl N sq dr c α h s0 = some (e, α', h', s1) → ∀ ρ a w, St P n0 ρ N α h a w → SOk csS csN v' ρ s0 → ∀ Q : Exit → Act → List Frame → World → Prop,
      (∀ ρ' a' w', St P n0 ρ' N α' h' a' w' → Step ρ h w ρ' h' w' → SOk csS csN v' ρ' s1 → (∀ v, s1 = some v → s0 = some v) → Q (exOf e) a' (csAt csS csN s1) w') → c.wpSIn Fence.wide 0 P Q a (csAt csS csN s0) w := by
  have plain : ∀ (c : Code) (α : A) (h : H) (s0 : DSt) (e : Ex) (α' : A) (h' : H) (s1 : DSt), om (evC (Env.of P eqs clone) cl N none sq dr c α h) (fun r => (r.1, r.2.1, r.2.2, s0)) = some (e, α', h', s1) → ∀ ρ a w, St P n0 ρ N α h a w → SOk csS csN v' ρ s0 → ∀ Q : Exit → Act → List Frame → World → Prop,
      (∀ ρ' a' w', St P n0 ρ' N α' h' a' w' → Step ρ h w ρ' h' w' → SOk csS csN v' ρ' s1 → (∀ v, s1 = some v → s0 = some v) → Q (exOf e) a' (csAt csS csN s1) w') → c.wpSIn Fence.wide 0 P Q a (csAt csS csN s0) w := by
    intro c α h s0 e α' h' s1 hl ρ a w s so Q hQ
    rw [om_some] at hl
    obtain ⟨⟨e1, α1, h1⟩, hl, he⟩ := hl
    injection he with e1 e2; injection e2 with e2 e3; injection e3 with e3 e4; subst e1; subst e2; subst e3; subst e4
    exact wpSIn_of_wpIn rfl (evC_ok ok hc hs hd c (Or.inl rfl) α h _ _ _ hl ρ a w s (RoOk.none ρ) (fun e a' w' => Q e a' (csAt csS csN s0) w') fun ρ' a' w' s' st' => hQ ρ' a' w' s' st' (so.mono st'.ext) fun _ h => h)
  intro c
  induction c with
  | seq x y ix iy =>
    intro α h s0 e α' h' s1 hl ρ a w s so Q hQ
    have hl : ob (evD (Env.of P eqs clone) cl N sq dr x α h s0) (fun r => Ex.casesOn (motive := fun _ => OutD) r.1 (evD (Env.of P eqs clone) cl N sq dr y r.2.1 r.2.2.1 r.2.2.2) (fun i => some (.exit i, r.2)) (some (.ret, r.2))) = some (e, α', h', s1) := hl
    rw [ob_some] at hl
    obtain ⟨⟨e1, α1, h1, s2⟩, hr, hl⟩ := hl
    refine wpSIn_seq (ix α h s0 e1 α1 h1 s2 hr ρ a w s so _ fun ρ' a' w' s' st' so' hb' => ?_)
    cases e1 with
    | normal => exact iy α1 h1 s2 e α' h' s1 hl ρ' a' w' s' so' Q fun ρ'' a'' w'' s'' st'' so'' hb'' => hQ ρ'' a'' w'' s'' (st'.trans st'') so'' fun v hv => hb' v (hb'' v hv)
    | exit i =>
      injection hl with hl; injection hl with e1 e2; injection e2 with e2 e3; injection e3 with e3 e4; subst e1; subst e2; subst e3; subst e4
      exact hQ ρ' a' w' s' st' so' hb'
    | ret =>
      injection hl with hl; injection hl with e1 e2; injection e2 with e2 e3; injection e3 with e3 e4; subst e1; subst e2; subst e3; subst e4
      exact hQ ρ' a' w' s' st' so' hb'
  | cond c x y ix iy =>
    intro α h s0 e α' h' s1 hl ρ a w s so Q hQ
    have hl : ob (opv c (Env.of P eqs clone) α) (fun v => match v with | .bool t => bi t (evD (Env.of P eqs clone) cl N sq dr x α h s0) (evD (Env.of P eqs clone) cl N sq dr y α h s0) | _ => none) = some (e, α', h', s1) := hl
    rw [ob_some] at hl
    obtain ⟨v, hv, hl⟩ := hl
    have hv' := (s.ctx ok).opv hv
    split at hl
    · rename_i t
      have hcv : a.eval c = .bool t := by
        generalize a.eval c = ec at hv'
        cases hv'; rfl
      refine wpSIn_cond hcv ?_
      cases t
      · exact iy α h s0 e α' h' s1 hl ρ a w s so Q hQ
      · exact ix α h s0 e α' h' s1 hl ρ a w s so Q hQ
    · cases hl
  | region id ops d =>
    intro α h s0 e α' h' s1 hl ρ a w s so Q hQ
    cases d
    · have hl : bi (List.any ops.toList fun o => isRec o.op) (om (seqD (Env.of P eqs clone) cl N ops.toList ops.toList α h s0) (fun r => (Ex.normal, r))) (om (evC (Env.of P eqs clone) cl N none sq dr (.region id ops false) α h) fun r => (r.1, r.2.1, r.2.2, s0)) = some (e, α', h', s1) := hl
      rw [bi_eq] at hl
      split at hl
      rotate_left
      · exact plain _ α h s0 e α' h' s1 hl ρ a w s so Q hQ
      rw [om_some] at hl
      obtain ⟨⟨α1, h1, s2⟩, hr, hl⟩ := hl
      injection hl with e1 e2; injection e2 with e2 e3; injection e3 with e3 e4; subst e1; subst e2; subst e3; subst e4
      refine wpSIn_region ?_
      have := seqD_sound ok ops.toList hN ops.toList 0 α h s0 ρ a w rfl s so hr hQ
      rw [List.range_eq_range']
      simpa using this
    · exact plain _ α h s0 e α' h' s1 hl ρ a w s so Q hQ
  | skip => exact plain .skip
  | block id x ix => exact plain (.block id x)
  | loop x ix => exact plain (.loop x)
  | rangeFunc f ps x y ix iy => exact plain (.rangeFunc f ps x y)
  | exit id => exact plain (.exit id)
  | scope x ix => exact plain (.scope x)
  | label l => exact plain (.label l)
  | goto l => exact plain (.goto l)
  | ret => exact plain .ret
  | refuse why => exact plain (.refuse why)

/-- the mode of the one that leaves: it panics still, or as is said -/
def moAt (v' : Value) (uN : FrameMode) (s : DSt) : FrameMode := match s with
  | some _ => .panicking [{ v := v', recovered := false }]
  | none => uN
theorem bodyD_sound (ok : Ok P eqs clone) {cl : CallT} (hc : CallOk P P.globals.size n0 cl) (hdr : ∀ ro N, RegOk P n0 N ro true (regD (Env.of P eqs clone) cl N)) (s : Sim P.globals.size n0 ρ h w) {f : FuncId} {fn : Func} (hf : P.funcs[f]? = some fn)
    {args args' : List Value} {h' : H} {s0 s1 : DSt} {v' : Value} {uN : FrameMode} (hN : ∀ (c : Frame) (cs : List Frame), c.mode = uN → recoverD (c :: cs) = none) (hS : ∀ v, s0 = some v → VR ρ v v' ∧ uN = .panicking [{ v := v', recovered := true }])
    (hv : VRs ρ args args') (hl : bodyD (Env.of P eqs clone) cl fn args h s0 = some (h', s1)) :
    ∃ c, fn.body = some c ∧ CallsDIn Fence.wide 0 P f ⟨args'⟩ (moAt v' uN s0) w fun e u' w' => (∃ v, e = .returned v) ∧ u' = moAt v' uN s1 ∧ (∀ v, s1 = some v → s0 = some v) ∧ ∃ ρ', Sim P.globals.size n0 ρ' h' w' ∧ Step ρ h w ρ' h' w' := by
  unfold bodyD at hl
  rw [ob_some] at hl
  obtain ⟨c, hb, hl⟩ := hl
  rw [bi_some_none, ob_some] at hl
  obtain ⟨hle, ⟨e1, α1, h1, s2⟩, hr, hl⟩ := hl
  have hle := Nat.le_of_ble_eq_true hle
  refine ⟨c, hb, callsDIn_of_wpSIn hf hb trivial fun c₀ cs hu => ?_⟩
  have hsq : ∀ ro, RegOk P n0 fn.ntmps ro false (fun ops => seqE (Env.of P eqs clone) cl fn.ntmps ops ops) := fun ro id ops α h α' h' hnd hl ρ a w s Q hQ => region_seq ok hc hnd s hl hQ
  have hcur : c₀ :: cs = csAt ({ c₀ with mode := .panicking [{ v := v', recovered := false }] } :: cs) ({ c₀ with mode := uN } :: cs) s0 := by
    cases s0 with
    | none => have hu : c₀.mode = uN := hu; show c₀ :: cs = { c₀ with mode := uN } :: cs; rw [← hu]
    | some v => have hu : c₀.mode = .panicking [{ v := v', recovered := false }] := hu; show c₀ :: cs = { c₀ with mode := .panicking [{ v := v', recovered := false }] } :: cs; rw [← hu]
  have hfin : ∀ s : DSt, csAt ({ c₀ with mode := .panicking [{ v := v', recovered := false }] } :: cs) ({ c₀ with mode := uN } :: cs) s = { c₀ with mode := moAt v' uN s } :: cs := fun s => by cases s <;> rfl
  have so : SOk ({ c₀ with mode := .panicking [{ v := v', recovered := false }] } :: cs) ({ c₀ with mode := uN } :: cs) v' ρ s0 := fun v hv => by
    obtain ⟨h1, h2⟩ := hS v hv
    exact ⟨h1, by rw [h2]; rfl⟩
  rw [hcur]
  refine evD_ok ok hc (hsq none) (hdr none _) (hN _ _ rfl) c _ _ _ _ _ _ _ hr ρ _ w (init_st s hv hle) so _ fun ρ' a' w' s' st' so' hb' => ?_
  have fin : om (endD (Env.of P eqs clone) fn α1 h1) (fun h => (h, s2)) = some (h', s1) → a'.defers = [] ∧ ∃ u', csAt ({ c₀ with mode := .panicking [{ v := v', recovered := false }] } :: cs) ({ c₀ with mode := uN } :: cs) s2 = { c₀ with mode := u' } :: cs ∧
      ∃ v, (results fn a'.tmps).run P w' = .ok v w' ∧ ((∃ v', Ending.returned v = .returned v') ∧ u' = moAt v' uN s1 ∧ (∀ v, s1 = some v → s0 = some v) ∧ ∃ ρ', Sim P.globals.size n0 ρ' h' w' ∧ Step ρ h w ρ' h' w') := by
    intro he
    rw [om_some] at he
    obtain ⟨h2, he, e⟩ := he
    injection e with e1 e2; subst e1; subst e2
    unfold endD at he
    have hd := s'.defs
    cases hα : α1.d with
    | nil =>
      rw [hα] at he hd
      have he : om (resE (Env.of P eqs clone) α1 h1 fn.results.toList) (fun _ => h1) = some h2 := he
      rw [om_some] at he
      obtain ⟨vs, hvs, e⟩ := he
      subst e
      obtain ⟨v, h3, _⟩ := res_sound (P := P) s' hvs
      exact ⟨by generalize a'.defers = q at hd; cases hd; rfl, _, hfin s2, v, h3, ⟨v, rfl⟩, rfl, hb', ρ', s'.sim, st'⟩
    | cons d ds => rw [hα] at he; cases he
  cases e1 with
  | normal => exact fin hl
  | exit i => cases hl
  | ret => exact fin hl

theorem runDefers_cons (E : Env) (cl : CallT) (d : Df) (l : List Df) (h : H) : runDefers E cl (d :: l) h = (match d with
    | .fn f args => ob (E.fn.get f) fun fn => ob (bodyD E cl fn args h none) fun r => runDefers E cl l r.1
    | .col id => ob (h.bl.get id) fun x => match x with
      | .df true => runDefers E cl l ⟨h.next, shutE h id, h.mem⟩
      | _ => none) := rfl
theorem runDefP_cons (E : Env) (cl : CallT) (v : Value) (d : Df) (l : List Df) (h : H) : runDefP E cl v (d :: l) h = (match d with
    | .fn f args => ob (E.fn.get f) fun fn => ob (bodyD E cl fn args h (some v)) fun r => Option.casesOn (motive := fun _ => Option H) r.2 (runDefers E cl l r.1) (fun _ => runDefP E cl v l r.1)
    | .col id => ob (h.bl.get id) fun x => match x with
      | .df true => runDefP E cl v l ⟨h.next, shutE h id, h.mem⟩
      | _ => none) := rfl
theorem noRec_ret (c : Frame) (cs : List Frame) (h : c.mode = .returning) : recoverD (c :: cs) = none := by simp [recoverD, h]
theorem noRec_rec {v' : Value} (c : Frame) (cs : List Frame) (h : c.mode = .panicking [{ v := v', recovered := true }]) : recoverD (c :: cs) = none := by simp [recoverD, h]

theorem leaves_sound (ok : Ok P eqs clone) {cl : CallT} (hc : CallOk P P.globals.size n0 cl) (hdr : ∀ ro N, RegOk P n0 N ro true (regD (Env.of P eqs clone) cl N)) {fn : Func} {tmps : Array Value} {R : Ending → World → Prop} {h' : H} :
    ∀ (l : List Df) (m : List Deferred) (ρ : Rho) (h : H) (w : World), DR ρ l m → Sim P.globals.size n0 ρ h w → runDefers (Env.of P eqs clone) cl l h = some h' →
    (∀ ρ' w', Sim P.globals.size n0 ρ' h' w' → Step ρ h w ρ' h' w' → ∃ v, (results fn tmps).run P w' = .ok v w' ∧ R (.returned v) w') → LeavesInM Fence.wide 0 P fn tmps R m .returning w := by
  intro l
  induction l with
  | nil =>
    intro m ρ h w hd s hl hK
    injection hl with hl; subst hl
    cases hd
    exact hK ρ w s (Step.refl _ _ _)
  | cons d l ih =>
    intro m ρ h w hd s hl hK
    rw [runDefers_cons] at hl
    cases hd with
    | cons f args dargs cap _ m hv hd =>
      simp only at hl
      rw [ob_some] at hl
      obtain ⟨gn, hg, hl⟩ := hl
      rw [ob_some] at hl
      obtain ⟨⟨h1, s1⟩, hb, hl⟩ := hl
      have hg := fn_spec hg
      obtain ⟨c, hbody, hcalls⟩ := bodyD_sound ok hc hdr s hg (v' := .nilIface) (uN := .returning) noRec_ret (fun v h => by cases h) hv hb
      refine ⟨by simp, Or.inr ⟨(fun h => by cases h), .func f, ⟨cap⟩, f, ⟨dargs ++ cap⟩, rfl, ?_, fun _ _ => trivial, ?_⟩⟩
      · have := callFunc_enter (w := w) ok.names hg hbody (⟨dargs⟩ ++ ⟨cap⟩)
        simp only [invoke]
        simpa using this
      · refine hcalls.mono fun e u' w' ⟨⟨v, he⟩, hu, hb', ρ', s', st'⟩ => ?_
        subst he
        have : u' = .returning := by
          rw [hu]
          cases s1 with
          | none => rfl
          | some v => have := hb' v rfl; cases this
        subst this
        exact ih m ρ' h1 w' (hd.mono st'.ext) s' hl fun ρ'' w'' s'' st'' => hK ρ'' w'' s'' (st'.trans st'')
    | col id r _ m hr hd =>
      simp only at hl
      rw [ob_some] at hl
      obtain ⟨x, hx, hl⟩ := hl
      split at hl
      · obtain ⟨o, k1, k2⟩ := s.at_lp hx rfl hr
        cases k2
        obtain ⟨s1, t1⟩ := s.set_obj (x := .df false) (o := .deferred none) hx rfl hr rfl (fun _ _ he => by cases he) (fun _ _ _ _ he => by cases he) (fun _ => .dn)
        refine ⟨by simp, Or.inl ⟨r, _, rfl, run_takeDeferred k1, ?_⟩⟩
        exact ih m ρ _ _ hd s1 hl fun ρ'' w'' s'' st'' => hK ρ'' w'' s'' (t1.trans st'')
      · cases hl

/-- one that panics leaves, and one of its deferred calls recovers -/
theorem leavesP_sound (ok : Ok P eqs clone) {cl : CallT} (hc : CallOk P P.globals.size n0 cl) (hdr : ∀ ro N, RegOk P n0 N ro true (regD (Env.of P eqs clone) cl N)) {fn : Func} {tmps : Array Value} {R : Ending → World → Prop} {h' : H} {v v' : Value} :
    ∀ (l : List Df) (m : List Deferred) (ρ : Rho) (h : H) (w : World), DR ρ l m → VR ρ v v' → Sim P.globals.size n0 ρ h w → runDefP (Env.of P eqs clone) cl v l h = some h' →
    (∀ ρ' w', Sim P.globals.size n0 ρ' h' w' → Step ρ h w ρ' h' w' → ∃ v, (results fn tmps).run P w' = .ok v w' ∧ R (.returned v) w') → LeavesInM Fence.wide 0 P fn tmps R m (.panicking [{ v := v', recovered := false }]) w := by
  intro l
  induction l with
  | nil => intro m ρ h w hd hv s hl hK; cases hl
  | cons d l ih =>
    intro m ρ h w hd hvv s hl hK
    rw [runDefP_cons] at hl
    cases hd with
    | cons f args dargs cap _ m hv hd =>
      simp only at hl
      rw [ob_some] at hl
      obtain ⟨gn, hg, hl⟩ := hl
      rw [ob_some] at hl
      obtain ⟨⟨h1, s1⟩, hb, hl⟩ := hl
      have hg := fn_spec hg
      obtain ⟨c, hbody, hcalls⟩ := bodyD_sound ok hc hdr s hg (v' := v') (uN := .panicking [{ v := v', recovered := true }]) noRec_rec (fun u h => by injection h with h; subst h; exact ⟨hvv, rfl⟩) hv hb
      refine ⟨by simp, Or.inr ⟨(fun h => by cases h), .func f, ⟨cap⟩, f, ⟨dargs ++ cap⟩, rfl, ?_, fun _ _ => trivial, ?_⟩⟩
      · have := callFunc_enter (w := w) ok.names hg hbody (⟨dargs⟩ ++ ⟨cap⟩)
        simp only [invoke]
        simpa using this
      · refine hcalls.mono fun e u' w' ⟨⟨x, he⟩, hu, hb', ρ', s', st'⟩ => ?_
        subst he
        cases s1 with
        | none =>
          have hu : u' = .panicking [{ v := v', recovered := true }] := hu
          subst hu
          exact leaves_sound ok hc hdr l m ρ' h1 w' (hd.mono st'.ext) s' hl fun ρ'' w'' s'' st'' => hK ρ'' w'' s'' (st'.trans st'')
        | some u =>
          have hu : u' = .panicking [{ v := v', recovered := false }] := hu
          subst hu
          exact ih m ρ' h1 w' (hd.mono st'.ext) (hvv.mono st'.ext) s' hl fun ρ'' w'' s'' st'' => hK ρ'' w'' s'' (st'.trans st'')
    | col id r _ m hr hd =>
      simp only at hl
      rw [ob_some] at hl
      obtain ⟨x, hx, hl⟩ := hl
      split at hl
      · obtain ⟨o, k1, k2⟩ := s.at_lp hx rfl hr
        cases k2
        obtain ⟨s1, t1⟩ := s.set_obj (x := .df false) (o := .deferred none) hx rfl hr rfl (fun _ _ he => by cases he) (fun _ _ _ _ he => by cases he) (fun _ => .dn)
        refine ⟨by simp, Or.inl ⟨r, _, rfl, run_takeDeferred k1, ?_⟩⟩
        exact ih m ρ _ _ hd hvv s1 hl fun ρ'' w'' s'' st'' => hK ρ'' w'' s'' (t1.trans st'')
      · cases hl

theorem runCols_cons (d : Df) (l : List Df) (h : H) : runCols (d :: l) h = (match d with
    | .fn _ _ => none
    | .col id => ob (h.bl.get id) fun x => match x with
      | .df true => runCols l ⟨h.next, shutE h id, h.mem⟩
      | _ => none) := rfl
/-- one that panics leaves; nothing is deferred but by rounds -/
theorem leavesC_sound {fn : Func} {tmps : Array Value} {R : Ending → World → Prop} {h' : H} {v' : Value} :
    ∀ (l : List Df) (m : List Deferred) (ρ : Rho) (h : H) (w : World), DR ρ l m → Sim P.globals.size n0 ρ h w → runCols l h = some h' →
    (∀ w', Sim P.globals.size n0 ρ h' w' → Step ρ h w ρ h' w' → R (.panicked [{ v := v', recovered := false }]) w') → LeavesInM Fence.wide 0 P fn tmps R m (.panicking [{ v := v', recovered := false }]) w := by
  intro l
  induction l with
  | nil =>
    intro m ρ h w hd s hl hK
    injection hl with hl; subst hl
    cases hd
    exact hK w s (Step.refl _ _ _)
  | cons d l ih =>
    intro m ρ h w hd s hl hK
    rw [runCols_cons] at hl
    cases hd with
    | cons f args dargs cap _ m hv hd => cases hl
    | col id r _ m hr hd =>
      simp only at hl
      rw [ob_some] at hl
      obtain ⟨x, hx, hl⟩ := hl
      split at hl
      · obtain ⟨o, k1, k2⟩ := s.at_lp hx rfl hr
        cases k2
        obtain ⟨s1, t1⟩ := s.set_obj (x := .df false) (o := .deferred none) hx rfl hr rfl (fun _ _ he => by cases he) (fun _ _ _ _ he => by cases he) (fun _ => .dn)
        refine ⟨by simp, Or.inl ⟨r, _, rfl, run_takeDeferred k1, ?_⟩⟩
        exact ih m ρ _ _ hd s1 hl fun w'' s'' st'' => hK w'' s'' (t1.trans st'')
      · cases hl

/-- a function that panics -/
theorem panF_sound (ok : Ok P eqs clone) {cl pn : CallT} (hc : CallOk P P.globals.size n0 cl) (hp : PanOk P P.globals.size n0 pn) (hdr : ∀ ro N, RegOk P n0 N ro true (regD (Env.of P eqs clone) cl N)) {f : Nat} {args : List Value} {v : Value} {h h' : H} (hl : panF (Env.of P eqs clone) cl pn f args h = some (v, h')) :
    (∃ fn b, P.funcs[f]? = some fn ∧ fn.body = some b) ∧ ∀ (ρ : Rho) (w : World) (args' : List Value), Sim P.globals.size n0 ρ h w → VRs ρ args args' →
      Calls P f ⟨args'⟩ w fun e w' => ∃ v', e = .panicked [{ v := v', recovered := false }] ∧ Post P.globals.size n0 ρ h w h' v v' w' := by
  unfold panF at hl
  rw [ob_some] at hl
  obtain ⟨fn, hf, hl⟩ := hl
  have hf := fn_spec hf
  rw [ob_some] at hl
  obtain ⟨c, hb, hl⟩ := hl
  rw [bi_some_none, ob_some] at hl
  obtain ⟨hle, ⟨u, α1, h1⟩, hr, hl⟩ := hl
  have hle := Nat.le_of_ble_eq_true hle
  refine ⟨⟨fn, c, hf, hb⟩, fun ρ w args' s hv => (callsIn_wide (n := 0)).1 (callsIn_of_wp_marks hf hb trivial ?_)⟩
  have hsq : ∀ ro, RegOk P n0 fn.ntmps ro false (fun ops => seqE (Env.of P eqs clone) cl fn.ntmps ops ops) := fun ro id ops α h α' h' hnd hl ρ a w s Q hQ => region_seq ok hc hnd s hl hQ
  refine evP_ok ok hc hp (hsq none) (hdr none _) c _ _ _ _ _ hr ρ _ w (init_st s hv hle) _ fun ρ' a' w' v' s' st' hv' => ?_
  have hl : om (runCols α1.d h1) (fun h => (u, h)) = some (v, h') := hl
  rw [om_some] at hl
  obtain ⟨h2, hrc, hl⟩ := hl
  injection hl with e1 e2; subst e1; subst e2
  exact leavesC_sound α1.d a'.defers ρ' h1 w' s'.defs s'.sim hrc fun w'' s'' st'' => ⟨v', rfl, ρ', s'', st'.trans st'', hv'.mono st''.ext⟩

/-- a function that panics, and recovers -/
theorem bodyR_sound (ok : Ok P eqs clone) {cl pn : CallT} (hc : CallOk P P.globals.size n0 cl) (hp : PanOk P P.globals.size n0 pn) (hdr : ∀ ro N, RegOk P n0 N ro true (regD (Env.of P eqs clone) cl N)) (s : Sim P.globals.size n0 ρ h w) {f : FuncId} {fn : Func} (hf : P.funcs[f]? = some fn)
    {args args' : List Value} {v : Value} {h' : H} (hv : VRs ρ args args') (hl : bodyR (Env.of P eqs clone) cl pn fn args h = some (v, h')) :
    Calls P f ⟨args'⟩ w fun e w' => ∃ v', e = .returned v' ∧ Post P.globals.size n0 ρ h w h' v v' w' := by
  unfold bodyR at hl
  rw [ob_some] at hl
  obtain ⟨c, hb, hl⟩ := hl
  rw [bi_none_some] at hl
  obtain ⟨_, hl⟩ := hl
  rw [bi_some_none, ob_some] at hl
  obtain ⟨hle, ⟨u, α1, h1⟩, hr, hl⟩ := hl
  have hle := Nat.le_of_ble_eq_true hle
  rw [ob_some] at hl
  obtain ⟨h2, hrd, hl⟩ := hl
  rw [om_some] at hl
  obtain ⟨vs, hvs, hl⟩ := hl
  injection hl with e1 e2; subst e1; subst e2
  refine (callsIn_wide (n := 0)).1 (callsIn_of_wp_marks hf hb trivial ?_)
  have hsq : ∀ ro, RegOk P n0 fn.ntmps ro false (fun ops => seqE (Env.of P eqs clone) cl fn.ntmps ops ops) := fun ro id ops α h α' h' hnd hl ρ a w s Q hQ => region_seq ok hc hnd s hl hQ
  refine evP_ok ok hc hp (hsq none) (hdr none _) c _ _ _ _ _ hr ρ _ w (init_st s hv hle) _ fun ρ' a' w' v' s' st' hv' => ?_
  refine leavesP_sound ok hc hdr α1.d a'.defers ρ' h1 w' s'.defs hv' s'.sim hrd fun ρ'' w'' s'' st'' => ?_
  have s3 : St P n0 ρ'' fn.ntmps α1 h2 a' w'' := ⟨s'', s'.size, fun t u hu => let ⟨u', k1, k2⟩ := s'.slot t u hu; ⟨u', k1, k2.mono st''.ext⟩, s'.defs.mono st''.ext⟩
  obtain ⟨x, k1, k2⟩ := res_sound (P := P) s3 hvs
  exact ⟨x, k1, x, rfl, ρ'', s'', st'.trans st'', k2⟩

theorem body_sound (ok : Ok P eqs clone) {cl : CallT} (hc : CallOk P P.globals.size n0 cl) (hdr : ∀ ro N, RegOk P n0 N ro true (regD (Env.of P eqs clone) cl N)) (s : Sim P.globals.size n0 ρ h w) {f : FuncId} {fn : Func} (hf : P.funcs[f]? = some fn)
    {args args' : List Value} {v : Value} {h' : H} (hv : VRs ρ args args') (hl : bodyE (Env.of P eqs clone) cl f fn args h = some (v, h')) :
    (∃ c, fn.body = some c) ∧ Calls P f ⟨args'⟩ w fun e w' => ∃ v', e = .returned v' ∧ Post P.globals.size n0 ρ h w h' v v' w' := by
  unfold bodyE at hl
  rw [ob_some] at hl
  obtain ⟨c, hb, hl⟩ := hl
  rw [bi_some_none, ob_some] at hl
  obtain ⟨hle, ⟨e1, α1, h1⟩, hr, hl⟩ := hl
  have hle := Nat.le_of_ble_eq_true hle
  refine ⟨⟨c, hb⟩, (callsIn_wide (n := 0)).1 (callsIn_of_wp_marks hf hb trivial ?_)⟩
  have hsq : ∀ ro, RegOk P n0 fn.ntmps ro false (fun ops => seqE (Env.of P eqs clone) cl fn.ntmps ops ops) := fun ro id ops α h α' h' hnd hl ρ a w s Q hQ => region_seq ok hc hnd s hl hQ
  refine evC_okG ok hc (hsq none) (hdr none _) (f + 1) c (fun x hx l hm hg hid => ok.loops f fn c hf hb x hx l hm (by omega) hid) (Or.inl rfl) _ _ _ _ _ hr ρ _ w (init_st s hv hle) (RoOk.none ρ) _ fun ρ' a' w' s' st' => ?_
  have fin : doneE (Env.of P eqs clone) cl fn α1 h1 = some (v, h') → LeavesInM Fence.wide 0 P fn a'.tmps (fun e w' => ∃ v', e = .returned v' ∧ Post P.globals.size n0 ρ h w h' v v' w') a'.defers .returning w' := by
    intro he
    unfold doneE at he
    rw [ob_some] at he
    obtain ⟨h2, hrd, he⟩ := he
    rw [om_some] at he
    obtain ⟨vs, hvs, he⟩ := he
    injection he with e1 e2; subst e1; subst e2
    refine leaves_sound ok hc hdr α1.d a'.defers ρ' h1 w' s'.defs s'.sim hrd fun ρ'' w'' s'' st'' => ?_
    have s3 : St P n0 ρ'' fn.ntmps α1 h2 a' w'' := ⟨s'', s'.size, fun t u hu => let ⟨u', k1, k2⟩ := s'.slot t u hu; ⟨u', k1, k2.mono st''.ext⟩, s'.defs.mono st''.ext⟩
    obtain ⟨v', k1, k2⟩ := res_sound (P := P) s3 hvs
    exact ⟨v', k1, v', rfl, ρ'', s'', st'.trans st'', k2⟩
  cases e1 with
  | normal => exact fin hl
  | exit i => cases hl
  | ret => exact fin hl


theorem setPs_size : ∀ (ps : List Nat) (args : List Value) (tm : Array Value), ((ps.zip args).foldl (fun tmps (x : Nat × Value) => tmps.setIfInBounds x.1 x.2) tm).size = tm.size := by
  intro ps
  induction ps with
  | nil => intro args tm; rfl
  | cons p ps ih =>
    intro args tm
    cases args with
    | nil => rfl
    | cons v args => rw [List.zip_cons_cons, List.foldl_cons, ih]; simp
theorem setPs_slot {ρ : Rho} : ∀ (ps : List Nat) (args args' : List Value) (t : T Value) (tm : Array Value), VRs ρ args args' → (∀ p ∈ ps, p < tm.size) → (∀ k v, t.get k = some v → ∃ v', tm[k]? = some v' ∧ VR ρ v v') →
    ∀ k v, (setPs ps args t).get k = some v → ∃ v', ((ps.zip args').foldl (fun tmps (x : Nat × Value) => tmps.setIfInBounds x.1 x.2) tm)[k]? = some v' ∧ VR ρ v v' := by
  intro ps
  induction ps with
  | nil => intro args args' t tm _ _ ht; simpa [setPs] using ht
  | cons p ps ih =>
    intro args args' t tm ha hp ht
    cases ha with
    | nil => simpa [setPs] using ht
    | cons u u' l m h1 h2 =>
      rw [List.zip_cons_cons, List.foldl_cons]
      simp only [setPs]
      refine ih l m (t.set p u) _ h2 (fun q hq => by simpa using hp q (List.mem_cons_of_mem _ hq)) fun k v hv => ?_
      rcases T.get_set hv with ⟨rfl, rfl⟩ | ⟨hne, hv⟩
      · exact ⟨u', by simp [hp _ (List.mem_cons_self ..)], h1⟩
      · obtain ⟨v', k1, k2⟩ := ht k v hv
        exact ⟨v', by rw [Array.getElem?_setIfInBounds_ne (Ne.symm hne)]; exact k1, k2⟩

theorem round_sound (ok : Ok P eqs clone) {cl : CallT} (hc : CallOk P P.globals.size n0 cl) (hdr : ∀ ro N, RegOk P n0 N ro true (regD (Env.of P eqs clone) cl N)) (s : Sim P.globals.size n0 ρ h w) {l L : Nat} (hL : ρ l = some (L, 0)) {args args' : List Value} (ha : VRs ρ args args') {v : Value} {h' : H}
    (hl : roundE (Env.of P eqs clone) cl l args h = some (v, h')) :
    ∃ r, w.heap[L]? = some (.loop r) ∧ args'.length = r.params.size ∧ RoundIn Fence.wide 0 P L r.fn (putPs r ⟨args'⟩) r.assign r.body w fun e w' => ∃ v', e = .returned v' ∧ Post P.globals.size n0 ρ h w h' v v' w' := by
  unfold roundE at hl
  rw [ob_some] at hl
  obtain ⟨x, hx, hl⟩ := hl
  split at hl
  · rename_i x0
    rw [bi_some_none, bi_some_none] at hl
    obtain ⟨hlen, hps, hl⟩ := hl
    have hlen := Nat.eq_of_beq_eq_true hlen
    obtain ⟨o, k1, k2⟩ := s.at_lp hx rfl hL
    obtain ⟨r, e, k2⟩ := k2.rec_of
    subst e
    have k2' := k2
    cases k2' with
    | lp _ _ q1 q2 q3 q4 q5 q6 q7 q8 q9 =>
    refine ⟨r, k1, by rw [← ha.length, hlen, ← q5]; simp, ?_⟩
    have hsq : RegOk P n0 x0.n (some L) false (fun ops => seqE (Env.of P eqs clone) cl x0.n ops ops) := fun id ops α h α' h' hnd hl ρ a w s Q hQ => region_seq ok hc hnd s hl hQ
    have hz : putPs r ⟨args'⟩ = (x0.ps.zip args').foldl (fun tmps (x : Nat × Value) => tmps.setIfInBounds x.1 x.2) r.tmps := by
      unfold putPs
      rw [← Array.foldl_toList, Array.toList_zip, q5]
    have hbd : ∀ p ∈ x0.ps, p < r.tmps.size := fun p hp => by
      rw [q3]
      have := List.all_eq_true.1 hps p hp
      exact Nat.le_of_ble_eq_true this
    have hst : St P n0 ρ x0.n ⟨setPs x0.ps args x0.t, []⟩ h { tmps := putPs r ⟨args'⟩, defers := [] } w :=
      ⟨s, by rw [hz, setPs_size]; exact q3, fun t u hu => by rw [hz]; exact setPs_slot _ _ _ _ _ ha hbd q4 t u hu, .nil⟩
    rw [q6, q7]
    refine roundIn_of_wpIn trivial ?_
    unfold runRE at hl
    rw [ob_some] at hl
    obtain ⟨⟨e1, α1, h1⟩, hr, hl⟩ := hl
    have hro : RoOk (some l) (some L) ρ := ⟨(fun h => by cases h), fun _ e => by injection e with e; subst e; exact ⟨L, rfl, hL⟩⟩
    refine evC_ok ok hc hsq (hdr (some L) _) x0.as (Or.inr q8) _ _ _ _ _ hr ρ _ w hst hro _ fun ρ1 a1 w1 s1 t1 => ?_
    cases e1 with
    | exit i => cases hl
    | ret => cases hl
    | normal =>
      have hl : ob (beginE l h1) (fun h1 => ob (evC (Env.of P eqs clone) cl x0.n (some l) (fun ops => seqE (Env.of P eqs clone) cl x0.n ops ops) (regD (Env.of P eqs clone) cl x0.n) x0.body α1 h1) fun r =>
          Ex.casesOn (motive := fun _ => Option (Value × H)) r.1 (endRE l 0 none true r.2.2) (fun i => endRE l 2 (some (.exit i)) false r.2.2) (endRE l 2 (some .ret) false r.2.2)) = some (v, h') := hl
      rw [ob_some] at hl
      obtain ⟨h2, hbg, hl⟩ := hl
      rw [ob_some] at hl
      obtain ⟨⟨e3, α3, h3⟩, hr3, hl⟩ := hl
      have hL1 := t1.ext.get _ _ hL
      unfold beginE at hbg
      rw [ob_some] at hbg
      obtain ⟨y, hy, hbg⟩ := hbg
      split at hbg
      · rename_i y0
        rw [bi_some_none] at hbg
        obtain ⟨hy0, hbg⟩ := hbg
        injection hbg with hbg; subst hbg
        have hy0 : y0.st = 0 := Nat.eq_of_beq_eq_true hy0
        obtain ⟨o, j1, j2⟩ := s1.sim.at_lp hy rfl hL1
        obtain ⟨r1, e, j2⟩ := j2.rec_of
        subst e
        obtain ⟨s2, t2⟩ := set_lp s1.sim hy hL1 j2 1 .busy rfl y0.pend
        have hp : r1.pending = y0.pend ∧ r1.state = .ready := by cases j2 with | lp _ _ a1 a2 => exact ⟨a2, by rw [a1, hy0]; rfl⟩
        have hbr := run_beginRound (P := P) j1 hp.2
        rw [show ({ r1 with state := .busy } : Loop) = { r1 with state := .busy, pending := y0.pend } by rw [← hp.1]] at hbr
        refine ⟨_, hbr, ?_⟩
        have s2' : St P n0 ρ1 x0.n α1 _ a1 _ := ⟨s2, s1.size, s1.slot, s1.defs⟩
        refine evC_ok ok hc hsq (hdr (some L) _) x0.body (Or.inr q9) _ _ _ _ _ hr3 ρ1 _ _ s2' (hro.mono t1.ext) _ fun ρ3 a3 w3 s3 t3 => ?_
        have fin : ∀ (st : Nat) (j : Option Code) (b : Bool), b = j.isNone → stOf st = (if j.isNone then .ready else .done) → endRE l st j b h3 = some (v, h') →
            ∃ v' w', (Instr.endRound L j).run P w3 = .ok v' w' ∧ ∃ u, Ending.returned v' = .returned u ∧ Post P.globals.size n0 ρ h w h' v u w' := by
          intro st j b hb hst he
          unfold endRE at he
          rw [ob_some] at he
          obtain ⟨z, hz, he⟩ := he
          split at he
          · rename_i z0
            injection he with he; injection he with e1 e2; subst e1; subst e2
            have hL3 := t3.ext.get _ _ hL1
            obtain ⟨o, i1, i2⟩ := s3.sim.at_lp hz rfl hL3
            obtain ⟨r3, e, i2⟩ := i2.rec_of
            subst e
            obtain ⟨s4, t4⟩ := set_lp s3.sim hz hL3 i2 st _ hst.symm j
            exact ⟨_, _, run_endRound j i1, _, rfl, ρ3, s4, t1.trans (t2.trans (t3.trans t4)), by rw [hb]; exact .bool _⟩
          · cases he
        cases e3 with
        | normal => exact fin 0 none true rfl rfl hl
        | exit i => exact fin 2 (some (.exit i)) false rfl rfl hl
        | ret => exact fin 2 (some .ret) false rfl rfl hl
      · cases hbg
  · cases hl

theorem callB_ok (ok : Ok P eqs clone) (hdr : DrawOk P n0 eqs clone) : ∀ n, CallOk P P.globals.size n0 (callB (Env.of P eqs clone) n false) ∧ PanOk P P.globals.size n0 (callB (Env.of P eqs clone) n true) := by
  intro n
  induction n with
  | zero => exact ⟨⟨(fun f args h v h' hl => by cases hl), (fun l args h v h' hl => by cases hl)⟩, (fun f args h v h' hl => by cases hl)⟩
  | succ n ihp =>
    obtain ⟨ih, ihP⟩ := ihp
    refine ⟨⟨?_, fun l args h v h' hl ρ w L args' s hL ha => round_sound ok ih (hdr _ ih) s hL ha hl⟩, fun f args h v h' hl => panF_sound ok ih ihP (hdr _ ih) hl⟩
    intro f args h v h' hl
    have hl : callF (Env.of P eqs clone) (callB (Env.of P eqs clone) n false) (callB (Env.of P eqs clone) n true) f args h = some (v, h') := hl
    unfold callF at hl
    have hE1 : (Env.of P eqs clone).calls = DenD.calls := rfl
    have hE2 : (Env.of P eqs clone).runs = DenD.runs := rfl
    rw [hE1, hE2] at hl
    cases hk : lookC DenD.calls f args with
    | some c =>
      rw [hk] at hl
      have hl : bi (needsE h c.need) (some (c.v, h)) none = some (v, h') := hl
      rw [bi_some_none] at hl
      obtain ⟨hnd, hl⟩ := hl
      injection hl with hl
      injection hl with e1 e2
      subst e1; subst e2
      obtain ⟨hm, rfl, h2⟩ := lookC_mem hk
      have co := ok.calls c hm
      refine ⟨co.body, fun ρ w args' s hv => ?_⟩
      have := co.call w s.ng_le (Nat.le_trans s.lowOk.low s.low) s.lowOk.fix (needsE_cells s hnd co.need)
      rw [caEqL_dvs h2 hv] at this
      refine this.mono fun e w' ⟨he, hb⟩ => ⟨_, he, ρ, (s.below hb).1, (s.below hb).2, okV_VR co.val⟩
    | none =>
    rw [hk] at hl
    cases hj : lookR DenD.runs f args h with
    | some r =>
      rw [hj] at hl
      have hl : some (r.v, mergeR h r) = some (v, h') := hl
      injection hl with hl
      injection hl with e1 e2
      subst e1; subst e2
      obtain ⟨hm, rfl, rfl, hp⟩ := lookR_spec hj
      have ro := ok.runs r hm
      refine ⟨ro.body, fun ρ w args' s hv => ?_⟩
      refine (ro.run n0 ρ w args' (s.atRun hp) hv).mono fun e w' ⟨v', he, ρ', s', st', hv'⟩ => ?_
      obtain ⟨s2, st2⟩ := s.merged hp ro.chk s' st'
      exact ⟨v', he, ρ', s2, st2, hv'⟩
    | none =>
    rw [hj] at hl
    have hl : ob ((Env.of P eqs clone).fn.get f) (fun fn => Option.casesOn (motive := fun _ => Option (Value × H)) (bodyE (Env.of P eqs clone) (callB (Env.of P eqs clone) n false) f fn args h) (bodyR (Env.of P eqs clone) (callB (Env.of P eqs clone) n false) (callB (Env.of P eqs clone) n true) fn args h) some) = some (v, h') := hl
    rw [ob_some] at hl
    obtain ⟨fn, hf, hl⟩ := hl
    have hf := fn_spec hf
    cases hbe : bodyE (Env.of P eqs clone) (callB (Env.of P eqs clone) n false) f fn args h with
    | some r =>
      rw [hbe] at hl
      have hl : some r = some (v, h') := hl
      injection hl with hl
      subst hl
      refine ⟨?_, fun ρ w args' s hv => (body_sound ok ih (hdr _ ih) s hf hv hbe).2⟩
      unfold bodyE at hbe
      rw [ob_some] at hbe
      obtain ⟨c, hb, _⟩ := hbe
      exact ⟨fn, c, hf, hb⟩
    | none =>
      rw [hbe] at hl
      have hl : bodyR (Env.of P eqs clone) (callB (Env.of P eqs clone) n false) (callB (Env.of P eqs clone) n true) fn args h = some (v, h') := hl
      refine ⟨?_, fun ρ w args' s hv => bodyR_sound ok ih ihP (hdr _ ih) s hf hv hl⟩
      unfold bodyR at hl
      rw [ob_some] at hl
      obtain ⟨c, hb, _⟩ := hl
      exact ⟨fn, c, hf, hb⟩
theorem callM_ok (ok : Ok P eqs clone) (hdr : DrawOk P n0 eqs clone) (n : Nat) : CallOk P P.globals.size n0 (callM (Env.of P eqs clone) n) := (callB_ok ok hdr n).1
theorem callN_ok (ok : Ok P eqs clone) (hdr : DrawOk P n0 eqs clone) (n : Nat) (f : Nat) (args : List Value) (h : H) (v : Value) (h' : H) (hc : callN (Env.of P eqs clone) n f args h = some (v, h')) :
    (∃ fn b, P.funcs[f]? = some fn ∧ fn.body = some b) ∧ ∀ (ρ : Rho) (w : World) (args' : List Value), Sim P.globals.size n0 ρ h w → VRs ρ args args' →
      Calls P f ⟨args'⟩ w fun e w' => ∃ v', e = .returned v' ∧ Post P.globals.size n0 ρ h w h' v v' w' := (callM_ok ok hdr n).fn f args h v h' hc
end
end Go.Ev
