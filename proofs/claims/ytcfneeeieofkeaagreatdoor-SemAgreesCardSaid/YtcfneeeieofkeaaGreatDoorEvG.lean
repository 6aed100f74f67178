/- A part of an evaluator of runs, and that it is right. -/
import Derived.Test.YtcfneeeieofkeaaGreatDoorEvF
import Derived.Recover
set_option linter.unusedVariables false
set_option linter.unusedSimpArgs false
set_option linter.unusedSectionVars false
namespace Go.Ev
variable [Den]

def exOf : Ex → Exit
  | .normal => .normal
  | .exit i => .exit i
  | .ret => .ret

section
variable {P : Program} {eqs : List Nat} {clone : Nat} {n0 N : Nat} {ρ : Rho} {h : H} {α : A} {a : Act} {w w' : World}

theorem Oper.dummy : True := trivial

/-- what is behind: by the way it is left -/
def Lands (P : Program) (n0 N : Nat) (ρ : Rho) (h : H) (w : World) (e : Ex) (α' : A) (h' : H) (Q : Exit → Act → World → Prop) : Prop :=
  ∀ ρ' a' w', St P n0 ρ' N α' h' a' w' → Step ρ h w ρ' h' w' → Q (exOf e) a' w'

/-- a way to go through regions is right -/
def RegOk (P : Program) (n0 N : Nat) (d : Bool) (f : RegT) : Prop :=
  ∀ (id : Nat) (ops : Array Oper) (α : A) (h : H) (α' : A) (h' : H), f ops.toList α h = some (α', h') → ∀ ρ a w, St P n0 ρ N α h a w → ∀ Q, Lands P n0 N ρ h w .normal α' h' Q → (Code.region id ops d).wp P Q a w

def RunOk (P : Program) (n0 N : Nat) (c : Code) (f : A → H → Out) : Prop :=
  ∀ α h e α' h', f α h = some (e, α', h') → ∀ ρ a w, St P n0 ρ N α h a w → ∀ Q, Lands P n0 N ρ h w e α' h' Q → c.wp P Q a w

theorem loop_ok {c : Code} {f : A → H → Out} (hf : RunOk P n0 N c f) : ∀ n, RunOk P n0 N (.loop c) (iterE f n) := by
  have key : ∀ n α h e α' h', iterE f n α h = some (e, α', h') → ∀ ρ a w, St P n0 ρ N α h a w → ∀ Q, Lands P n0 N ρ h w e α' h' Q → ∀ (b : Frame) (k : List Item) (cs : List Frame),
      ∃ e a' w', Q e a' w' ∧ Arrives P (lone (b.at a (.code c :: .inLoop c :: k)) cs w) b k cs e a' w' := by
    intro n
    induction n with
    | zero => intro α h e α' h' hl; cases hl
    | succ n ih =>
      intro α h e α' h' hl ρ a w s Q hQ b k cs
      have hl : ob (f α h) (fun r => Ex.casesOn (motive := fun _ => Out) r.1 (iterE f n r.2.1 r.2.2) (fun i => some (.exit i, r.2)) (some (.ret, r.2))) = some (e, α', h') := hl
      rw [ob_some] at hl
      obtain ⟨⟨e1, α1, h1⟩, hr, hl⟩ := hl
      have hx := hf α h e1 α1 h1 hr ρ a w s (fun x a' w' => x = exOf e1 ∧ ∃ ρ', St P n0 ρ' N α1 h1 a' w' ∧ Step ρ h w ρ' h1 w') (fun ρ' a' w' s' st' => ⟨rfl, ρ', s', st'⟩) b (.inLoop c :: k) cs
      obtain ⟨x, a1, w1, ⟨hx1, ρ', s', st'⟩, harr⟩ := hx
      subst hx1
      cases e1 with
      | normal =>
        obtain ⟨e2, a2, w2, hq2, harr2⟩ := ih α1 h1 e α' h' hl ρ' a1 w1 s' Q (fun ρ'' a'' w'' s'' st'' => hQ ρ'' a'' w'' s'' (st'.trans st'')) b k cs
        exact ⟨e2, a2, w2, hq2, .of_steps (Steps.trans harr (.one step_inLoop)) harr2⟩
      | exit i =>
        injection hl with hl; injection hl with e1 e2; injection e2 with e2 e3; subst e1; subst e2; subst e3
        exact ⟨_, a1, w1, hQ ρ' a1 w1 s' st', .pass (x := .inLoop c) rfl (fun _ _ => .inl (by simp [exOf])) harr⟩
      | ret =>
        injection hl with hl; injection hl with e1 e2; injection e2 with e2 e3; subst e1; subst e2; subst e3
        exact ⟨_, a1, w1, hQ ρ' a1 w1 s' st', .pass (x := .inLoop c) rfl (fun _ _ => .inl (by simp [exOf])) harr⟩
  intro n α h e α' h' hl ρ a w s Q hQ b k cs
  obtain ⟨e, a', w', hq, harr⟩ := key n α h e α' h' hl ρ a w s Q hQ b k cs
  exact ⟨e, a', w', hq, .of_steps (.one step_loop) harr⟩

theorem evC_ok (ok : Ok P eqs clone) {sq dr : RegT} (hs : RegOk P n0 N false sq) (hd : RegOk P n0 N true dr) : ∀ c : Code, RunOk P n0 N c (evC (Env.of P eqs clone) sq dr c) := by
  intro c
  induction c with
  | skip =>
    intro α h e α' h' hl ρ a w s Q hQ
    injection hl with hl; injection hl with e1 e2; injection e2 with e2 e3; subst e1; subst e2; subst e3
    exact wp_skip (hQ ρ a w s (Step.refl _ _ _))
  | label l =>
    intro α h e α' h' hl ρ a w s Q hQ
    injection hl with hl; injection hl with e1 e2; injection e2 with e2 e3; subst e1; subst e2; subst e3
    exact wp_label (hQ ρ a w s (Step.refl _ _ _))
  | ret =>
    intro α h e α' h' hl ρ a w s Q hQ
    injection hl with hl; injection hl with e1 e2; injection e2 with e2 e3; subst e1; subst e2; subst e3
    exact wp_ret (hQ ρ a w s (Step.refl _ _ _))
  | exit i =>
    intro α h e α' h' hl ρ a w s Q hQ
    injection hl with hl; injection hl with e1 e2; injection e2 with e2 e3; subst e1; subst e2; subst e3
    exact wp_exit (hQ ρ a w s (Step.refl _ _ _))
  | region id ops d =>
    intro α h e α' h' hl ρ a w s Q hQ
    have hl : om (bi d (dr ops.toList α h) (sq ops.toList α h)) (fun r => (Ex.normal, r)) = some (e, α', h') := hl
    rw [om_some] at hl
    obtain ⟨⟨α1, h1⟩, hr, hl⟩ := hl
    injection hl with e1 e2; injection e2 with e2 e3; subst e1; subst e2; subst e3
    cases d
    · exact hs id ops α h _ _ hr ρ a w s Q hQ
    · exact hd id ops α h _ _ hr ρ a w s Q hQ
  | seq x y ix iy =>
    intro α h e α' h' hl ρ a w s Q hQ
    have hl : ob (evC (Env.of P eqs clone) sq dr x α h) (fun r => Ex.casesOn (motive := fun _ => Out) r.1 (evC (Env.of P eqs clone) sq dr y r.2.1 r.2.2) (fun i => some (.exit i, r.2)) (some (.ret, r.2))) = some (e, α', h') := hl
    rw [ob_some] at hl
    obtain ⟨⟨e1, α1, h1⟩, hr, hl⟩ := hl
    refine wp_seq (ix α h e1 α1 h1 hr ρ a w s _ fun ρ' a' w' s' st' => ?_)
    cases e1 with
    | normal => exact iy α1 h1 e α' h' hl ρ' a' w' s' Q fun ρ'' a'' w'' s'' st'' => hQ ρ'' a'' w'' s'' (st'.trans st'')
    | exit i =>
      injection hl with hl; injection hl with e1 e2; injection e2 with e2 e3; subst e1; subst e2; subst e3
      exact hQ ρ' a' w' s' st'
    | ret =>
      injection hl with hl; injection hl with e1 e2; injection e2 with e2 e3; subst e1; subst e2; subst e3
      exact hQ ρ' a' w' s' st'
  | cond c x y ix iy =>
    intro α h e α' h' hl ρ a w s Q hQ
    have hl : ob (opv c (Env.of P eqs clone) α) (fun v => match v with | .bool t => bi t (evC (Env.of P eqs clone) sq dr x α h) (evC (Env.of P eqs clone) sq dr y α h) | _ => none) = some (e, α', h') := hl
    rw [ob_some] at hl
    obtain ⟨v, hv, hl⟩ := hl
    have hv' := (s.ctx ok).opv hv
    split at hl
    · rename_i t
      have hcv : a.eval c = .bool t := by
        generalize a.eval c = ec at hv'
        cases hv'; rfl
      refine wp_cond hcv ?_
      cases t
      · exact iy α h e α' h' hl ρ a w s Q hQ
      · exact ix α h e α' h' hl ρ a w s Q hQ
    · cases hl
  | block id x ix =>
    intro α h e α' h' hl ρ a w s Q hQ
    have hl : ob (evC (Env.of P eqs clone) sq dr x α h) (fun r => Ex.casesOn (motive := fun _ => Out) r.1 (some (.normal, r.2)) (fun i => bi (Nat.beq i id) (some (.normal, r.2)) (some (.exit i, r.2))) (some (.ret, r.2))) = some (e, α', h') := hl
    rw [ob_some] at hl
    obtain ⟨⟨e1, α1, h1⟩, hr, hl⟩ := hl
    refine wp_block (ix α h e1 α1 h1 hr ρ a w s _ fun ρ' a' w' s' st' => ?_)
    cases e1 with
    | normal =>
      injection hl with hl; injection hl with e1 e2; injection e2 with e2 e3; subst e1; subst e2; subst e3
      exact hQ ρ' a' w' s' st'
    | exit i =>
      have hl : bi (Nat.beq i id) (some (Ex.normal, α1, h1)) (some (Ex.exit i, α1, h1)) = some (e, α', h') := hl
      rw [bi_eq] at hl
      simp only [exOf, Exit.inBlock]
      split at hl
      · rename_i he
        have he : i = id := Nat.eq_of_beq_eq_true he
        rw [if_pos he]
        injection hl with hl; injection hl with e1 e2; injection e2 with e2 e3; subst e1; subst e2; subst e3
        exact hQ ρ' a' w' s' st'
      · rename_i he
        have he : ¬ i = id := fun e => he (by subst e; simp)
        rw [if_neg he]
        injection hl with hl; injection hl with e1 e2; injection e2 with e2 e3; subst e1; subst e2; subst e3
        exact hQ ρ' a' w' s' st'
    | ret =>
      injection hl with hl; injection hl with e1 e2; injection e2 with e2 e3; subst e1; subst e2; subst e3
      exact hQ ρ' a' w' s' st'
  | loop x ix => exact loop_ok ix 100000
  | rangeFunc f ps x y ix iy => intro α h e α' h' hl; cases hl
  | scope x ix => intro α h e α' h' hl; cases hl
  | goto l => intro α h e α' h' hl; cases hl
  | refuse why => intro α h e α' h' hl; cases hl

-- results
theorem resE_cons (E : Env) (α : A) (h : H) (r : ResultVar) (l : List ResultVar) : resE E α h (r :: l) = ResultVar.casesOn (motive := fun _ => Option (List Value)) r (fun t => ob (α.t.get t) fun v => om (resE E α h l) fun vs => v :: vs)
    (fun a t => ob (α.t.get a) fun p => ob (loadE E t p h) fun v => om (resE E α h l) fun vs => v :: vs) := rfl
def rv (a : Act) : ResultVar → Sem Value
  | .tmp t => pure (a.tmps.getD t undef)
  | .cell x t => do loadVar t (← asAddr (a.tmps.getD x undef))
theorem results_eq (fn : Func) (a : Act) : results fn a.tmps = (do let vs ← fn.results.mapM (rv a); pure (if h : vs.size = 1 then vs[0] else .tuple vs)) := by
  unfold results
  have : (fun x => match x with | ResultVar.tmp t => pure (a.tmps.getD t undef) | ResultVar.cell x t => do loadVar t (← asAddr (a.tmps.getD x undef)) : ResultVar → Sem Value) = rv a := by
    funext x; cases x <;> rfl
  rw [← this]
  rfl
theorem res_list (s : St P n0 ρ N α h a w) : ∀ {l : List ResultVar} {vs : List Value}, resE (Env.of P eqs clone) α h l = some vs →
    ∃ vs', (l.mapM (m := Sem) (rv a)).run P w = .ok vs' w ∧ VRs ρ vs vs' := by
  intro l
  induction l with
  | nil => intro vs hl; injection hl with hl; subst hl; exact ⟨[], rfl, .nil⟩
  | cons r l ih =>
    intro vs hl
    rw [resE_cons] at hl
    cases r with
    | tmp t =>
      have hl : ob (α.t.get t) (fun v => om (resE (Env.of P eqs clone) α h l) fun vs => v :: vs) = some vs := hl
      rw [ob_some] at hl
      obtain ⟨v, hv, hl⟩ := hl
      rw [om_some] at hl
      obtain ⟨us, hus, rfl⟩ := hl
      obtain ⟨us', h1, h2⟩ := ih hus
      obtain ⟨v', h3, h4⟩ := s.slot t v hv
      refine ⟨v' :: us', ?_, .cons _ _ _ _ h4 h2⟩
      have : a.tmps.getD t undef = v' := by simp [Array.getD_eq_getD_getElem?, h3]
      simp only [List.mapM_cons, rv, Sem.run_bind, Sem.run_pure, Result.andThen_ok, this]
      rw [h1]; rfl
    | cell x t =>
      have hl : ob (α.t.get x) (fun p => ob (loadE (Env.of P eqs clone) t p h) fun v => om (resE (Env.of P eqs clone) α h l) fun vs => v :: vs) = some vs := hl
      rw [ob_some] at hl
      obtain ⟨p, hp, hl⟩ := hl
      rw [ob_some] at hl
      obtain ⟨v, hv, hl⟩ := hl
      rw [om_some] at hl
      obtain ⟨us, hus, rfl⟩ := hl
      obtain ⟨us', h1, h2⟩ := ih hus
      obtain ⟨p', h3, h4⟩ := s.slot x p hp
      obtain ⟨ad, h5, v', h6, h7⟩ := loadE_sound (P := P) s.sim h4 hv
      subst h5
      refine ⟨v' :: us', ?_, .cons _ _ _ _ h7 h2⟩
      have : a.tmps.getD x undef = .pointer (some ad) := by simp [Array.getD_eq_getD_getElem?, h3]
      have ha : (asAddr (a.tmps.getD x undef)).run P w = .ok ad w := by rw [this]; rfl
      have hr : (rv a (.cell x t)).run P w = .ok v' w := by simp only [rv, Sem.run_bind, ha, Result.andThen_ok, h6]
      simp only [List.mapM_cons, Sem.run_bind, hr, Sem.run_pure, Result.andThen_ok, h1]
theorem res_sound (s : St P n0 ρ N α h a w) {fn : Func} {vs : List Value} (hl : resE (Env.of P eqs clone) α h fn.results.toList = some vs) :
    ∃ v', (results fn a.tmps).run P w = .ok v' w ∧ VR ρ (pack vs) v' := by
  obtain ⟨vs', h1, h2⟩ := res_list s hl
  have hm : (fn.results.mapM (m := Sem) (rv a)).run P w = .ok ⟨vs'⟩ w := by
    rw [Array.mapM_eq_mapM_toList]
    simp only [Sem.run_map, h1, Result.andThen_ok]
  refine ⟨if h : vs'.length = 1 then vs'[0] else .tuple ⟨vs'⟩, ?_, ?_⟩
  · rw [results_eq, Sem.run_bind, hm]
    simp only [Result.andThen_ok, Sem.run_pure, List.size_toArray]
    congr 1
  · have hlen := h2.length
    unfold pack
    split
    · rename_i v
      cases h2 with
      | cons _ v' _ _ h3 h4 => cases h4; simpa using h3
    · rename_i hn
      have : ¬ vs'.length = 1 := by
        intro e
        rw [e] at hlen
        match vs, hlen with
        | [v], _ => exact hn v rfl
      rw [dif_neg this]
      exact .tuple _ _ h2

theorem init_st (s : Sim P.globals.size n0 ρ h w) {args args' : List Value} (hv : VRs ρ args args') {n : Nat} (hle : args.length ≤ n) :
    St P n0 ρ n (initA args) h { tmps := (⟨args'⟩ : Array Value) ++ Array.replicate (n - (⟨args'⟩ : Array Value).size) undef, defers := [] } w := by
  have hl := hv.length
  refine ⟨s, by simp; omega, fun t v hv' => ?_, .nil⟩
  have hv' := T.get_ofList hv'
  obtain ⟨v', h1, h2⟩ := hv.get hv'
  refine ⟨v', ?_, h2⟩
  have hlt := (List.getElem?_eq_some_iff.1 h1).1
  rw [Array.getElem?_append_left (by simpa using hlt)]
  simpa using h1
end
end Go.Ev
