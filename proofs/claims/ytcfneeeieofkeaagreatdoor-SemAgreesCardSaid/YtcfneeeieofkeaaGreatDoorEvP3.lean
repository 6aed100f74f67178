/- A part of an evaluator of runs, and that it is right. -/
import Derived.Test.YtcfneeeieofkeaaGreatDoorEvP2
set_option linter.unusedVariables false
set_option linter.unusedSimpArgs false
set_option linter.unusedSectionVars false
namespace Go.Ev
variable [Den]
section
variable {P : Program} {eqs : List Nat} {clone : Nat} {ρ : Rho} {α : A} {a : Act} {w : World}

theorem pick_sound (c : Ctx P eqs ρ α a) {x y z : Operand} {v : Value} (h : pPick x y z (Env.of P eqs clone) α = some v) :
    Y P (do pure (if ← asBool (a.eval x) then a.eval y else a.eval z)) ρ v w := by
  unfold pPick at h
  rw [ob_some] at h
  obtain ⟨b, hb, h⟩ := h
  have hb' := c.opv hb
  split at h
  · rename_i t
    generalize a.eval x = ex at *
    cases hb'
    cases t
    · exact ⟨a.eval z, by simp [asBool], c.opv h⟩
    · exact ⟨a.eval y, by simp [asBool], c.opv h⟩
  · exact nomatch h

theorem eqN_sound {t : TypeId} {u : TypeDesc} {x y x' y' : Value} {b : Bool} (hu : P.underlying t = some u) (hx : VR ρ x x') (hy : VR ρ y y') (h : eqN u x y = some b) (d : Nat) :
    (Op.equalIn (d + 1) t x' y').run P w = .ok b w := by
  unfold eqN at h
  split at h <;> first | (cases h; done) | (injection h with h; subst h; cases hx <;> cases hy <;> simp [Op.equalIn, run_underlying hu, beqB_eq])

theorem eqK_sound {t : TypeId} {u : TypeDesc} {x y x' y' : Value} {b : Bool} (hu : P.underlying t = some u) (hs : scalarD u x = true) (hx : VR ρ x x') (hy : VR ρ y y') (h : eqK x y = some b) (d : Nat) :
    (Op.equalIn (d + 1) t x' y').run P w = .ok b w := by
  unfold eqK at h
  split at h
  · rw [bi_some_none] at h
    obtain ⟨h1, h2⟩ := h
    rw [kEq_iff] at h1; subst h1
    injection h2 with h2; subst h2
    cases hx; cases hy
    unfold scalarD at hs
    split at hs <;> first | (simp at hs; done) | skip
    all_goals rename_i h; first | (cases h; done) | skip
    rw [run_equalIn_int w d t _ _ _ _ hu, ieq_eq]
  · injection h with h; subst h
    cases hx; cases hy
    unfold scalarD at hs
    split at hs <;> first | (simp at hs; done) | skip
    all_goals rename_i h; first | (cases h; done) | skip
    rw [run_equalIn_string w d t _ _ hu, bytesEq_eq]
    simp [strL, ByteArray.toList_eq]
  · injection h with h; subst h
    cases hx; cases hy
    unfold scalarD at hs
    split at hs <;> first | (simp at hs; done) | skip
    all_goals rename_i h; first | (cases h; done) | skip
    rw [run_equalIn_bool w d t _ _ hu, beqB_eq]
  · exact nomatch h

theorem eqStruct_cons (E : Env) (x y : List Value) (f : Field) (fs : List Field) : eqStruct E x y (f :: fs) = ob (E.ty.get f.type) fun r => ob x[f.offset]? fun u => ob y[f.offset]? fun v =>
    bi (scalarD r.u u) (ob (eqK u v) fun e => bi e (eqStruct E x y fs) (some false)) none := rfl
theorem scalarD_agg {u : TypeDesc} {v : Value} (h : scalarD u v = true) : isAggD u = false := by
  unfold scalarD at h
  split at h <;> first | rfl | (cases h; done)
theorem eqStruct_sound {x y : List Value} {x' y' : Array Value} (hx : VRs ρ x x'.toList) (hy : VRs ρ y y'.toList) (d : Nat) : ∀ {fs : List Field} {b : Bool}, (∀ f ∈ fs, f.name ≠ "_") →
    eqStruct (Env.of P eqs clone) x y fs = some b → (Op.eqFields (d + 1) x' y' fs).run P w = .ok b w := by
  intro fs
  induction fs with
  | nil => intro b _ h; cases h; rfl
  | cons f fs ih =>
    intro b hn h
    rw [eqStruct_cons, ob_some] at h
    obtain ⟨r, hr, h⟩ := h
    rw [ob_some] at h
    obtain ⟨u, hu, h⟩ := h
    rw [ob_some] at h
    obtain ⟨v, hv, h⟩ := h
    rw [bi_some_none, ob_some] at h
    obtain ⟨hs, e, he, h⟩ := h
    obtain ⟨u', hu', hru⟩ := hx.get hu
    obtain ⟨v', hv', hrv⟩ := hy.get hv
    obtain ⟨i, h1, h2, h3, h4, _⟩ := ty_spec hr
    have hag := scalarD_agg hs
    have p1 : (part f.type x' f.offset).run P w = .ok u' w := by
      have : x'[f.offset]? = some u' := by simpa using hu'
      simp [part, run_agg hr, hag, this]
    have p2 : (part f.type y' f.offset).run P w = .ok v' w := by
      have : y'[f.offset]? = some v' := by simpa using hv'
      simp [part, run_agg hr, hag, this]
    have p3 := eqK_sound (w := w) h2 hs hru hrv he d
    simp only [Op.eqFields, hn f (by simp), ne_eq, not_false_eq_true, if_true, Sem.run_bind, p1, p2, p3, Result.andThen_ok]
    cases e
    · rw [bi_false] at h; injection h with h; subst h; simp
    · rw [bi_true] at h; simp; exact ih (fun g hg => hn g (by simp [hg])) h

theorem natIn_mem {n : Nat} {l : List Nat} (h : natIn n l = true) : n ∈ l := by
  induction l with
  | nil => cases h
  | cons a l ih =>
    simp only [natIn, bi_eq] at h
    split at h
    · rename_i h1; have := Nat.eq_of_beq_eq_true h1; simp [this]
    · simp [ih h]
theorem eqAgg_sound (c : Ctx P eqs ρ α a) {t : TypeId} {x y : List Value} {x' y' : Array Value} {b : Bool} (hx : VRs ρ x x'.toList) (hy : VRs ρ y y'.toList)
    (h : eqAgg (Env.of P eqs clone) t x y = some b) : P.eqGuardType P.depth t = false ∧ (Op.equalIn 10000 t (.agg x') (.agg y')).run P w = .ok b w := by
  unfold eqAgg at h
  rw [bi_some_none, ob_some] at h
  obtain ⟨h1, r, hr, h⟩ := h
  have ok := c.eq t (natIn_mem h1)
  refine ⟨ok.guard, ?_⟩
  obtain ⟨i, h1, h2, h3, h4, _⟩ := ty_spec hr
  split at h
  · rename_i fs hu
    rw [hu] at h2
    have hf : P.fieldsOf t = fs := by simp [Program.fieldsOf, h2]
    rw [run_equalIn_agg w 9999 t x' y' (by rw [hf]; exact h2) ok.held, hf]
    exact eqStruct_sound hx hy 9998 (by rw [← hf]; exact ok.names) h
  · cases h

theorem intBin_sound {op : BinOp} {k : IntKind} {x y : Int} {v : Value} (hs : isSh op = false) (h : intBin op k x y = some v) (t : TypeId) :
    (binOp op t (.int k x) (.int k y)).run P w = .ok v w ∧ VR ρ v v := by
  cases op <;> simp only [isSh] at hs <;> first | (cases hs; done) | skip
  case quo =>
    simp only [intBin, bi_none_some] at h
    obtain ⟨h1, h2⟩ := h
    injection h2 with h2; subst h2
    have : ¬ y = 0 := fun e => by rw [ieq_iff.2 e] at h1; cases h1
    exact ⟨by simp [binOp, Op.intDiv, this, wrapF_eq], .int _ _⟩
  case rem =>
    simp only [intBin, bi_none_some] at h
    obtain ⟨h1, h2⟩ := h
    injection h2 with h2; subst h2
    have : ¬ y = 0 := fun e => by rw [ieq_iff.2 e] at h1; cases h1
    exact ⟨by simp [binOp, Op.intDiv, this], .int _ _⟩
  all_goals
    simp only [intBin] at h
    injection h with h
    subst h
    refine ⟨?_, by constructor⟩
    simp [binOp, Op.intArith, Op.intBits, Op.intCmp, wrapF_eq, bnot_eq, ile_eq, ieq_eq]
  all_goals first | rfl | (simp [bne]; done) | (rw [Bool.eq_iff_iff]; simp; done) | skip
theorem sh_sound {op : BinOp} {k k' : IntKind} {x y : Int} {v : Value} (hs : isSh op = true) (h : intBin op k x y = some v) (t : TypeId) :
    (binOp op t (.int k x) (.int k' y)).run P w = .ok v w ∧ VR ρ v v := by
  cases op <;> simp only [isSh] at hs <;> first | (cases hs; done) | skip
  all_goals
    simp only [intBin, bi_some_none] at h
    obtain ⟨h1, h2⟩ := h
    injection h2 with h2; subst h2
    rw [ile_iff] at h1
    have : ¬ y < 0 := by omega
    exact ⟨by simp [binOp, Op.shift, this], .int _ _⟩
end
end Go.Ev
