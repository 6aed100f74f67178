/- A part of an evaluator of runs, and that it is right. -/
import Derived.Test.YtbkojaiecgdodaaDoorEvP2
section
set_option linter.unusedVariables false
set_option linter.unusedSimpArgs false
set_option linter.unusedSectionVars false
namespace Go.Ev
variable [Den]
section
variable {P : Program} {eqs : List Nat} {clone : Sp} {ρ : Rho} {α : A} {a : Act} {w : World}

theorem pick_sound (c : Ctx P eqs ρ α a) {x y z : Operand} {v : Value} (h : pPick x y z (Env.of P eqs clone) α = some v) :
    Y P (do pure (if ← asBool (a.eval x) then a.eval y else a.eval z)) ρ v w := by
  unfold pPick at h
  rw [ob_some] at h
  obtain ⟨b, hb, h⟩ := h
  have hb' := c.opv hb
  split at h
  · rename_i t
    generalize a.eval x = ex at *
    cases hb'
    cases t
    · exact ⟨a.eval z, by simp [asBool], c.opv h⟩
    · exact ⟨a.eval y, by simp [asBool], c.opv h⟩
  · exact nomatch h

theorem eqN_sound {t : TypeId} {u : TypeDesc} {x y x' y' : Value} {b : Bool} (hu : P.underlying t = some u) (hx : VR ρ x x') (hy : VR ρ y y') (h : eqN u x y = some b) (d : Nat) :
    (Op.equalIn (d + 1) t x' y').run P w = .ok b w := by
  unfold eqN at h
  split at h <;> first | (cases h; done) | (injection h with h; subst h; cases hx <;> cases hy <;> simp [Op.equalIn, run_underlying hu, beqB_eq])

theorem eqK_sound {t : TypeId} {u : TypeDesc} {x y x' y' : Value} {b : Bool} (hu : P.underlying t = some u) (hs : scalarD u x = true) (hx : VR ρ x x') (hy : VR ρ y y') (h : eqK x y = some b) (d : Nat) :
    (Op.equalIn (d + 1) t x' y').run P w = .ok b w := by
  unfold eqK at h
  split at h
  · rw [bi_some_none] at h
    obtain ⟨h1, h2⟩ := h
    rw [kEq_iff] at h1; subst h1
    injection h2 with h2; subst h2
    cases hx; cases hy
    unfold scalarD at hs
    split at hs <;> first | (simp at hs; done) | skip
    all_goals rename_i h; first | (cases h; done) | skip
    rw [run_equalIn_int w d t _ _ _ _ hu, ieq_eq]
  · injection h with h; subst h
    cases hx; cases hy
    unfold scalarD at hs
    split at hs <;> first | (simp at hs; done) | skip
    all_goals rename_i h; first | (cases h; done) | skip
    rw [run_equalIn_string w d t _ _ hu, bytesEq_eq]
    simp [strL, ByteArray.toList_eq]
  · injection h with h; subst h
    cases hx; cases hy
    unfold scalarD at hs
    split at hs <;> first | (simp at hs; done) | skip
    all_goals rename_i h; first | (cases h; done) | skip
    rw [run_equalIn_bool w d t _ _ hu, beqB_eq]
  · exact nomatch h

theorem eqStruct_cons (E : Env) (deep : TypeId → List Value → List Value → Option Bool) (x y : List Value) (f : Field) (fs : List Field) : eqStruct E deep x y (f :: fs) = ob (E.ty.get f.type) fun r => bi (isAggD r.u)
    (bi (Nat.ble (f.offset + r.size) x.length) (bi (Nat.ble (f.offset + r.size) y.length) (ob (deep f.type ((x.drop f.offset).take r.size) ((y.drop f.offset).take r.size)) fun e => bi e (eqStruct E deep x y fs) (some false)) none) none)
    (ob x[f.offset]? fun u => ob y[f.offset]? fun v => bi (scalarD r.u u) (ob (eqK u v) fun e => bi e (eqStruct E deep x y fs) (some false)) none) := rfl
theorem scalarD_agg {u : TypeDesc} {v : Value} (h : scalarD u v = true) : isAggD u = false := by
  unfold scalarD at h
  split at h <;> first | rfl | (cases h; done)
theorem part_agg {t : TypeId} {cs : List Value} {cs' : Array Value} {off : Nat} {r : TR} (hr : (Env.of P eqs clone).ty.get t = some r) (hag : isAggD r.u = true) (hc : VRs ρ cs cs'.toList) :
    ∃ l : List Value, (part t cs' off).run P w = .ok (.agg ⟨l⟩) w ∧ VRs ρ ((cs.drop off).take r.size) l := by
  obtain ⟨l⟩ := cs'
  have : (⟨l⟩ : Array Value).extract off (off + r.size) = ⟨(l.drop off).take r.size⟩ := by
    apply Array.ext'
    simp [List.take_drop]
  refine ⟨(l.drop off).take r.size, ?_, (hc.drop off).take r.size⟩
  rw [← this]
  simp [part, run_agg hr, hag, run_size hr]
theorem eqStruct_sound {deep : TypeId → List Value → List Value → Option Bool} {x y : List Value} {x' y' : Array Value} (hx : VRs ρ x x'.toList) (hy : VRs ρ y y'.toList) (d : Nat)
    (hdeep : ∀ t x y (x' y' : List Value) b, VRs ρ x x' → VRs ρ y y' → deep t x y = some b → (Op.equalIn (d + 1) t (.agg ⟨x'⟩) (.agg ⟨y'⟩)).run P w = .ok b w) : ∀ {fs : List Field} {b : Bool}, (∀ f ∈ fs, f.name ≠ "_") →
    eqStruct (Env.of P eqs clone) deep x y fs = some b → (Op.eqFields (d + 1) x' y' fs).run P w = .ok b w := by
  intro fs
  induction fs with
  | nil => intro b _ h; cases h; rfl
  | cons f fs ih =>
    intro b hn h
    rw [eqStruct_cons, ob_some] at h
    obtain ⟨r, hr, h⟩ := h
    cases hag : isAggD r.u
    · rw [hag, bi_false, ob_some] at h
      obtain ⟨u, hu, h⟩ := h
      rw [ob_some] at h
      obtain ⟨v, hv, h⟩ := h
      rw [bi_some_none, ob_some] at h
      obtain ⟨hs, e, he, h⟩ := h
      obtain ⟨u', hu', hru⟩ := hx.get hu
      obtain ⟨v', hv', hrv⟩ := hy.get hv
      obtain ⟨i, h1, h2, h3, h4, _⟩ := ty_spec hr
      have p1 : (part f.type x' f.offset).run P w = .ok u' w := by
        have : x'[f.offset]? = some u' := by simpa using hu'
        simp [part, run_agg hr, hag, this]
      have p2 : (part f.type y' f.offset).run P w = .ok v' w := by
        have : y'[f.offset]? = some v' := by simpa using hv'
        simp [part, run_agg hr, hag, this]
      have p3 := eqK_sound (w := w) h2 hs hru hrv he d
      simp only [Op.eqFields, hn f (by simp), ne_eq, not_false_eq_true, if_true, Sem.run_bind, p1, p2, p3, Result.andThen_ok]
      cases e
      · rw [bi_false] at h; injection h with h; subst h; simp
      · rw [bi_true] at h; simp; exact ih (fun g hg => hn g (by simp [hg])) h
    · rw [hag, bi_true, bi_some_none, bi_some_none, ob_some] at h
      obtain ⟨_, _, e, he, h⟩ := h
      obtain ⟨lx, p1, q1⟩ := part_agg (w := w) (off := f.offset) hr hag hx
      obtain ⟨ly, p2, q2⟩ := part_agg (w := w) (off := f.offset) hr hag hy
      have p3 := hdeep f.type _ _ lx ly e q1 q2 he
      simp only [Op.eqFields, hn f (by simp), ne_eq, not_false_eq_true, if_true, Sem.run_bind, p1, p2, p3, Result.andThen_ok]
      cases e
      · rw [bi_false] at h; injection h with h; subst h; simp
      · rw [bi_true] at h; simp; exact ih (fun g hg => hn g (by simp [hg])) h

theorem natIn_mem {n : Nat} {l : List Nat} (h : natIn n l = true) : n ∈ l := by
  induction l with
  | nil => cases h
  | cons a l ih =>
    simp only [natIn, bi_eq] at h
    split at h
    · rename_i h1; have := Nat.eq_of_beq_eq_true h1; simp [this]
    · simp [ih h]
theorem elemFields_name (e n : Nat) : ∀ (k i : Nat), ∀ f ∈ elemFields e n k i, f.name ≠ "_" := by
  intro k
  induction k with
  | zero => intro i f hf; cases hf
  | succ k ih =>
    intro i f hf
    rcases List.mem_cons.1 hf with rfl | hf
    · simp
    · exact ih (i + 1) f hf
theorem run_equalIn_arr (d : Nat) (t : TypeId) (xs ys : Array Value) {len : Nat} {e : TypeId} {n : Nat} (ht : P.underlying t = some (.array len e)) (hs : ∀ w, (sizeOf e).run P w = .ok n w) :
    (Op.equalIn (d + 1) t (.agg xs) (.agg ys)).run P w = (Op.eqFields d xs ys (elemFields e n len 0)).run P w := by
  simp only [Op.equalIn, Sem.run_bind, run_underlying ht, Result.andThen_ok, hs]
  simp only [Std.Legacy.Range.forIn_eq_forIn_range', Std.Legacy.Range.size, Nat.sub_zero, Nat.add_one_sub_one, Nat.div_one]
  clear ht
  generalize 0 = s
  induction len generalizing s w with
  | zero => simp [Op.eqFields, elemFields]
  | succ k ih =>
    simp only [List.range'_succ, List.forIn_cons, elemFields, Op.eqFields, Sem.run_bind, ne_eq, String.reduceEq, not_false_eq_true, if_true]
    generalize (part e xs (s * n)).run P w = r1
    cases r1 with
    | ok a w1 =>
      simp only [Result.andThen_ok]
      generalize (part e ys (s * n)).run P w1 = r2
      cases r2 with
      | ok b w2 =>
        simp only [Result.andThen_ok]
        generalize (Op.equalIn d e a b).run P w2 = r3
        cases r3 with
        | ok r w3 =>
          cases r
          · simp only [Result.andThen_ok, Bool.not_false, if_true, Sem.run_pure]
          · simp only [Result.andThen_ok, Bool.not_true, Bool.false_eq_true, if_false, Sem.run_pure]
            exact ih _
        | halt x w3 => simp [Result.andThen]
      | halt x w2 => simp [Result.andThen]
    | halt x w1 => simp [Result.andThen]
theorem eqAggN_sound (ceq : ∀ t, t ∈ eqs → EqOk P t) : ∀ (n d : Nat), n ≤ d → ∀ (t : TypeId) (x y x' y' : List Value) (b : Bool), VRs ρ x x' → VRs ρ y y' → eqAggN (Env.of P eqs clone) n t x y = some b →
    P.eqGuardType P.depth t = false ∧ (Op.equalIn (d + 1) t (.agg ⟨x'⟩) (.agg ⟨y'⟩)).run P w = .ok b w := by
  intro n
  induction n with
  | zero => intro d _ t x y x' y' b _ _ h; cases h
  | succ n ih =>
    intro d hd t x y x' y' b hx hy h
    have h : bi (natIn t (Env.of P eqs clone).eqs) (ob ((Env.of P eqs clone).ty.get t) fun r => match r.u with
      | .struct fs => eqStruct (Env.of P eqs clone) (eqAggN (Env.of P eqs clone) n) x y fs.toList
      | .array len e => ob ((Env.of P eqs clone).ty.get e) fun re => eqStruct (Env.of P eqs clone) (eqAggN (Env.of P eqs clone) n) x y (elemFields e re.size len 0)
      | _ => none) none = some b := h
    rw [bi_some_none, ob_some] at h
    obtain ⟨h1, r, hr, h⟩ := h
    have ok := ceq t (natIn_mem h1)
    refine ⟨ok.guard, ?_⟩
    obtain ⟨i, h1, h2, h3, h4, _⟩ := ty_spec hr
    obtain ⟨d, rfl⟩ : ∃ k, d = k + 1 := ⟨d - 1, by omega⟩
    split at h
    · rename_i fs hu
      rw [hu] at h2
      have hf : P.fieldsOf t = fs := by simp [Program.fieldsOf, h2]
      rw [run_equalIn_agg w (d + 1) t ⟨x'⟩ ⟨y'⟩ (by rw [hf]; exact h2) ok.held, hf]
      exact eqStruct_sound hx hy d (fun t x y x' y' b q1 q2 q3 => (ih d (by omega) t x y x' y' b q1 q2 q3).2) (by rw [← hf]; exact ok.names) h
    · rename_i len e hu
      rw [hu] at h2
      rw [ob_some] at h
      obtain ⟨re, hre, h⟩ := h
      rw [run_equalIn_arr (d + 1) t ⟨x'⟩ ⟨y'⟩ h2 (fun w => run_size hre)]
      exact eqStruct_sound hx hy d (fun t x y x' y' b q1 q2 q3 => (ih d (by omega) t x y x' y' b q1 q2 q3).2) (elemFields_name _ _ _ _) h
    · cases h
theorem eqAgg_sound (c : Ctx P eqs ρ α a) {t : TypeId} {x y : List Value} {x' y' : Array Value} {b : Bool} (hx : VRs ρ x x'.toList) (hy : VRs ρ y y'.toList)
    (h : eqAgg (Env.of P eqs clone) t x y = some b) : P.eqGuardType P.depth t = false ∧ (Op.equalIn 10000 t (.agg x') (.agg y')).run P w = .ok b w := by
  obtain ⟨x'⟩ := x'
  obtain ⟨y'⟩ := y'
  exact eqAggN_sound c.eq 5 9999 (by omega) t x y x' y' b hx hy h

theorem intBin_sound {op : BinOp} {k : IntKind} {x y : Int} {v : Value} (hs : isSh op = false) (h : intBin op k x y = some v) (t : TypeId) :
    (binOp op t (.int k x) (.int k y)).run P w = .ok v w ∧ VR ρ v v := by
  cases op <;> simp only [isSh] at hs <;> first | (cases hs; done) | skip
  case quo =>
    simp only [intBin, bi_none_some] at h
    obtain ⟨h1, h2⟩ := h
    injection h2 with h2; subst h2
    have : ¬ y = 0 := fun e => by rw [ieq_iff.2 e] at h1; cases h1
    exact ⟨by simp [binOp, Op.intDiv, this, wrapF_eq], .int _ _⟩
  case rem =>
    simp only [intBin, bi_none_some] at h
    obtain ⟨h1, h2⟩ := h
    injection h2 with h2; subst h2
    have : ¬ y = 0 := fun e => by rw [ieq_iff.2 e] at h1; cases h1
    exact ⟨by simp [binOp, Op.intDiv, this], .int _ _⟩
  all_goals
    simp only [intBin] at h
    injection h with h
    subst h
    refine ⟨?_, by constructor⟩
    simp [binOp, Op.intArith, Op.intBits, Op.intCmp, wrapF_eq, bnot_eq, ile_eq, ieq_eq]
  all_goals first | rfl | (simp [bne]; done) | (rw [Bool.eq_iff_iff]; simp; done) | skip
theorem sh_sound {op : BinOp} {k k' : IntKind} {x y : Int} {v : Value} (hs : isSh op = true) (h : intBin op k x y = some v) (t : TypeId) :
    (binOp op t (.int k x) (.int k' y)).run P w = .ok v w ∧ VR ρ v v := by
  cases op <;> simp only [isSh] at hs <;> first | (cases hs; done) | skip
  all_goals
    simp only [intBin, bi_some_none] at h
    obtain ⟨h1, h2⟩ := h
    injection h2 with h2; subst h2
    rw [ile_iff] at h1
    have : ¬ y < 0 := by omega
    exact ⟨by simp [binOp, Op.shift, this], .int _ _⟩
end
end Go.Ev
end
section
set_option linter.unusedVariables false
set_option linter.unusedSimpArgs false
set_option linter.unusedSectionVars false
namespace Go.Ev
variable [Den]
section
variable {P : Program} {eqs : List Nat} {clone : Sp} {ρ : Rho} {α : A} {a : Act} {w : World}

theorem strL_mk (l : List UInt8) : strL ⟨⟨l⟩⟩ = l := rfl
theorem toList_strL (s : ByteArray) : s.toList = strL s := by rw [ByteArray.toList_eq]; rfl
theorem size_strL (s : ByteArray) : s.size = (strL s).length := by cases s; rfl
theorem append_strL (x y : ByteArray) : x ++ y = ⟨⟨strL x ++ strL y⟩⟩ := by
  obtain ⟨⟨x⟩⟩ := x
  obtain ⟨⟨y⟩⟩ := y
  apply ByteArray.ext
  simp [strL]
theorem bytesLess_tri (x y : List UInt8) : (Op.bytesLess x y || (x == y)) = !Op.bytesLess y x := by
  induction x generalizing y with
  | nil => cases y <;> simp [Op.bytesLess]
  | cons a x ih =>
    cases y with
    | nil => simp [Op.bytesLess]
    | cons b y =>
      simp only [Op.bytesLess, List.cons_beq_cons]
      rcases Nat.lt_trichotomy a.toNat b.toNat with h | h | h
      · have h1 : a < b := UInt8.lt_iff_toNat_lt.2 h
        have h2 : ¬ b < a := fun e => by have := UInt8.lt_iff_toNat_lt.1 e; omega
        have h3 : ¬ b = a := fun e => by rw [e] at h; omega
        simp [h1, h2, h3]
      · have h1 : a = b := UInt8.toNat_inj.1 h
        subst h1
        have := ih y
        simp [this]
      · have h1 : b < a := UInt8.lt_iff_toNat_lt.2 h
        have h2 : ¬ a < b := fun e => by have := UInt8.lt_iff_toNat_lt.1 e; omega
        have h3 : ¬ a = b := fun e => by rw [e] at h; omega
        simp [h1, h2, h3]
theorem strBin_sound {op : BinOp} {x y : ByteArray} {v : Value} (h : strBin op (strL x) (strL y) = some v) (t : TypeId) :
    (binOp op t (.string x) (.string y)).run P w = .ok v w ∧ VR ρ v v := by
  cases op <;> simp only [strBin] at h <;> first | (cases h; done) | skip
  case add =>
    rw [bi_some_none] at h
    obtain ⟨h1, h2⟩ := h
    injection h2 with h2; subst h2
    have h1 := Nat.le_of_ble_eq_true h1
    refine ⟨?_, .string _⟩
    have : ¬ ((x.size + y.size : Nat) : Int) > IntKind.i64.max := by
      rw [size_strL, size_strL]
      have : IntKind.i64.max = 9223372036854775807 := rfl
      omega
    simp only [binOp, Op.stringOp, this, if_false, Sem.run_pure, append_strL]
  all_goals
    injection h with h; subst h
    refine ⟨?_, .bool _⟩
    simp only [binOp, Op.stringOp, toList_strL, bytesEq_eq, bytesLt_eq, bnot_eq, Sem.run_pure, bytesLess_tri, Bool.not_not]

theorem iface_same {t tx : TypeId} {ms : _} {ix : TypeInfo} {wx wy : Value} {b : Bool} (h2 : P.underlying t = some (.interface ms)) (hti : (typeInfo tx).run P w = .ok ix w) (hc : ix.comparable = true) (d : Nat)
    (hq : (Op.equalIn d tx wx wy).run P w = .ok b w) : (Op.equalIn (d + 1) t (.iface tx wx) (.iface tx wy)).run P w = .ok b w := by
  simp [Op.equalIn, run_underlying h2, hti, hc, hq]
theorem iface_other {t tx ty : TypeId} {ms : _} {wx wy : Value} (h2 : P.underlying t = some (.interface ms)) (he : tx ≠ ty) (d : Nat) : (Op.equalIn (d + 1) t (.iface tx wx) (.iface ty wy)).run P w = .ok false w := by
  simp [Op.equalIn, run_underlying h2, he]

theorem eqV_sound (c : Ctx P eqs ρ α a) {t : TypeId} {x y x' y' : Value} {b : Bool} (hx : VR ρ x x') (hy : VR ρ y y') (h : eqV (Env.of P eqs clone) t x y = some b) (o : BinOp) (p q : Operand) :
    (eqGuard o t p q x' y').run P w = .ok () w ∧ (Op.equalIn 10000 t x' y').run P w = .ok b w := by
  unfold eqV at h
  split at h
  · cases hx with
    | agg _ _ hx => cases hy with
      | agg _ _ hy =>
        obtain ⟨h1, h2⟩ := eqAgg_sound (w := w) c hx hy h
        exact ⟨run_eqGuard_agg w o t p q _ _ h1, h2⟩
  · rename_i tx vx ty vy
    unfold eqI at h
    rw [ob_some] at h
    obtain ⟨r, hr, h⟩ := h
    split at h
    · rename_i ms hms
      obtain ⟨i, h1, h2, _, _, _⟩ := ty_spec hr
      rw [hms] at h2
      cases hx with
      | iface _ _ wx hx => cases hy with
        | iface _ _ wy hy =>
          refine ⟨by cases o <;> simp [eqGuard], ?_⟩
          rw [bi_eq] at h
          split at h
          · rename_i he
            have he : tx = ty := Nat.eq_of_beq_eq_true he
            subst he
            rw [ob_some] at h
            obtain ⟨rx, hrx, h⟩ := h
            rw [bi_some_none, bi_some_none] at h
            obtain ⟨hcm, hsc, h⟩ := h
            obtain ⟨ix, k1, k2⟩ := ty_cmp hrx
            obtain ⟨_, _, k3, _, _, _⟩ := ty_spec hrx
            have hq := eqK_sound (w := w) k3 hsc hx hy h 9998
            have hti : (typeInfo tx).run P w = .ok ix w := by simp [typeInfo, k1]
            exact iface_same h2 hti (by rw [k2, hcm]) 9999 hq
          · rename_i he
            injection h with h; subst h
            have he : tx ≠ ty := fun e => he (by subst e; exact Nat.beq_refl _)
            exact iface_other h2 he 9999
    · cases h
  · rw [ob_some] at h
    obtain ⟨r, hr, h⟩ := h
    obtain ⟨i, h1, h2, h3, h4, _⟩ := ty_spec hr
    refine ⟨?_, eqN_sound h2 hx hy h 9999⟩
    unfold eqN at h
    split at h <;> first | (cases h; done) | (cases hx <;> cases hy <;> cases o <;> simp [eqGuard])

theorem guard_int (o : BinOp) (t : TypeId) (p q : Operand) (k k' : IntKind) (x y : Int) : (eqGuard o t p q (.int k x) (.int k' y)).run P w = .ok () w := by
  cases o <;> simp [eqGuard]
theorem guard_str (o : BinOp) (t : TypeId) (p q : Operand) (x y : ByteArray) : (eqGuard o t p q (.string x) (.string y)).run P w = .ok () w := by
  cases o <;> simp [eqGuard]

theorem binOp_eql_of {t : TypeId} {x' y' : Value} {b : Bool} (hn : ∀ k n, x' ≠ .int k n) (hs : ∀ s, x' ≠ .string s) (hf : ∀ k n, x' ≠ .float k n) (hc : ∀ k n m, x' ≠ .complex k n m) (h : (Op.equalIn 10000 t x' y').run P w = .ok b w) :
    (binOp .eql t x' y').run P w = .ok (.bool b) w ∧ (binOp .neq t x' y').run P w = .ok (.bool (!b)) w := by
  have h' : (Op.equal t x' y').run P w = .ok b w := h
  cases x' <;> first | exact absurd rfl (hn _ _) | exact absurd rfl (hs _) | exact absurd rfl (hf _ _) | exact absurd rfl (hc _ _ _) | skip
  all_goals cases y' <;> simp [binOp, h']

theorem eqV_kind {E : Env} {t : TypeId} {x y x' : Value} {b : Bool} (hx : VR ρ x x') (h : eqV E t x y = some b) :
    (∀ k n, x' ≠ .int k n) ∧ (∀ s, x' ≠ .string s) ∧ (∀ k n, x' ≠ .float k n) ∧ (∀ k n m, x' ≠ .complex k n m) := by
  unfold eqV at h
  split at h
  · cases hx; simp
  · cases hx; simp
  · rw [ob_some] at h
    obtain ⟨r, hr, h⟩ := h
    unfold eqN at h
    split at h <;> first | (cases h; done) | (cases hx <;> simp)

theorem syEq_dv {u v ex : Value} (h : syEq u v = true) (hv : VR ρ v ex) : dv DenV.den u = ex := by
  unfold syEq at h
  split at h
  · have h := Nat.eq_of_beq_eq_true h
    subst h
    cases hv with
    | sym c w hw hs => exact hw
  · rw [bi_tf, kEq_iff, ieq_iff] at h
    obtain ⟨h1, h2⟩ := h
    subst h1; subst h2
    cases hv; rfl
  · rw [beqB_eq] at h
    have h := eq_of_beq h
    subst h
    cases hv; rfl
  · rename_i x y
    rw [bytesEq_eq] at h
    have h := eq_of_beq h
    have e : x = y := by
      obtain ⟨⟨x⟩⟩ := x
      obtain ⟨⟨y⟩⟩ := y
      have h : x = y := h
      rw [h]
    subst e
    cases hv; rfl
  · cases hv; rfl
  · have h := Nat.eq_of_beq_eq_true h
    subst h
    cases hv with
    | func _ _ _ _ _ h k => cases h; cases k; rfl
  · cases h
theorem syEq_dvs {u v : Value} (h : syEq u v = true) : dvs DenV.den u = dv DenV.den u := by
  unfold syEq at h
  split at h <;> first | rfl | (cases h; done)
theorem syEqL_dvL : ∀ {us vs es : List Value}, syEqL us vs = true → VRs ρ vs es → dvL DenV.den us = es := by
  intro us
  induction us with
  | nil =>
    intro vs es h hv
    cases vs with
    | nil => cases hv; rfl
    | cons _ _ => cases h
  | cons u us ih =>
    intro vs es h hv
    cases hv with
    | nil => cases h
    | cons v e vs es h1 h2 =>
      simp only [syEqL, bi_tf] at h
      rw [dvL, syEq_dvs h.1, syEq_dv h.1 h1, ih h.2 h2]
theorem caEq_dvs {u v ex : Value} (h : caEq u v = true) (hv : VR ρ v ex) : dvs DenV.den u = ex := by
  unfold caEq at h
  split at h
  · cases hv with
    | agg _ ys k => rw [dvs, syEqL_dvL h k]
  · rw [syEq_dvs h, syEq_dv h hv]
theorem caEqL_dvs : ∀ {us vs es : List Value}, caEqL us vs = true → VRs ρ vs es → us.map (dvs DenV.den) = es := by
  intro us
  induction us with
  | nil =>
    intro vs es h hv
    cases vs with
    | nil => cases hv; rfl
    | cons _ _ => cases h
  | cons u us ih =>
    intro vs es h hv
    cases hv with
    | nil => cases h
    | cons v e vs es h1 h2 =>
      simp only [caEqL, bi_tf] at h
      rw [List.map_cons, caEq_dvs h.1 h1, ih h.2 h2]
theorem caEqL_get : ∀ {us vs : List Value} {i : Nat} {u v ex : Value}, caEqL us vs = true → us[i]? = some u → vs[i]? = some v → VR ρ v ex → ex = dvs DenV.den u := by
  intro us
  induction us with
  | nil => intro vs i u v ex h hu; simp at hu
  | cons a us ih =>
    intro vs i u v ex h hu hv hr
    cases vs with
    | nil => simp at hv
    | cons b vs =>
      simp only [caEqL, bi_tf] at h
      cases i with
      | zero =>
        simp at hu hv
        subst hu; subst hv
        exact (caEq_dvs h.1 hr).symm
      | succ i => exact ih h.2 (by simpa using hu) (by simpa using hv) hr
theorem okv_VR {v : Value} (h : okv DenV.den v = true) : VR ρ v (dv DenV.den v) := by
  unfold okv at h
  unfold dv
  split at h
  · exact .sym _ _ rfl h
  · exact flat1_VR h
theorem okv_dvs {v : Value} (h : okv DenV.den v = true) : dvs DenV.den v = dv DenV.den v := by
  unfold okv at h
  split at h
  · rfl
  · rename_i hn
    unfold flat1 at h
    split at h <;> first | rfl | (cases h; done)
theorem okL_VR {l : List Value} (h : okL DenV.den l = true) : VRs ρ l (dvL DenV.den l) := by
  induction l with
  | nil => exact .nil
  | cons v l ih =>
    simp only [okL, List.all_cons, Bool.and_eq_true] at h
    simp only [dvL]
    rw [okv_dvs h.1]
    exact .cons _ _ _ _ (okv_VR h.1) (ih h.2)
theorem okV_VR {v : Value} (h : okV DenV.den v = true) : VR ρ v (dvs DenV.den v) := by
  unfold okV at h
  split at h
  · simp only [dvs]; exact .tuple _ _ (okL_VR h)
  · simp only [dvs]; exact .agg _ _ (okL_VR h)
  · rw [okv_dvs h]; exact okv_VR h
theorem lookF_cons (f : Fact) (l : List Fact) (op : Nat) (a b : Value) : lookF (f :: l) op a b = bi (Nat.beq f.op op) (bi (syEq f.a a) (bi (syEq f.b b) (some f.v) (lookF l op a b)) (lookF l op a b)) (lookF l op a b) := rfl
theorem lookF_mem {op : Nat} {a b v : Value} : ∀ {l : List Fact}, lookF l op a b = some v → ∃ f ∈ l, f.op = op ∧ syEq f.a a = true ∧ syEq f.b b = true ∧ f.v = v := by
  intro l
  induction l with
  | nil => intro h; cases h
  | cons f l ih =>
    intro h
    have tl : lookF l op a b = some v → ∃ g ∈ f :: l, g.op = op ∧ syEq g.a a = true ∧ syEq g.b b = true ∧ g.v = v := fun h => let ⟨g, h1, h2⟩ := ih h; ⟨g, List.mem_cons_of_mem _ h1, h2⟩
    rw [lookF_cons] at h
    cases h1 : Nat.beq f.op op
    · rw [h1] at h; exact tl h
    cases h2 : syEq f.a a
    · rw [h1, h2] at h; exact tl h
    cases h3 : syEq f.b b
    · rw [h1, h2, h3] at h; exact tl h
    rw [h1, h2, h3] at h
    injection h with h
    exact ⟨f, List.mem_cons_self .., Nat.eq_of_beq_eq_true h1, h2, h3, h⟩
theorem bcode_inj {o p : BinOp} (h : bcode o = bcode p) : o = p := by cases o <;> cases p <;> first | rfl | (cases h; done)
theorem bcode_lt (o : BinOp) : bcode o < 17 := by cases o <;> decide
theorem kcode_ge (k : IntKind) : 20 ≤ kcode k := by cases k <;> decide
theorem kcode_le (k : IntKind) : kcode k < 30 := by cases k <;> decide
theorem kcode_inj {o p : IntKind} (h : kcode o = kcode p) : o = p := by cases o <;> cases p <;> first | rfl | (cases h; done)
theorem factBin_sound (op : BinOp) (t : TypeId) (p q : Operand) {u s v ex ey : Value} (hu : VR ρ u ex) (hs : VR ρ s ey) (h : lookF (Env.of P eqs clone).facts (bcode op) u s = some v) :
    Y P (do eqGuard op t p q ex ey; binOp op t ex ey) ρ v w := by
  obtain ⟨f, hm, h1, h2, h3, rfl⟩ := lookF_mem h
  have hf := Den.ok f hm
  cases hf with
  | bin op' a b v k k' x y ha hb hk hv hi =>
    have := bcode_inj h1
    subst this
    have e1 := (syEq_dv h2 hu).symm.trans ha
    have e2 := (syEq_dv h3 hs).symm.trans hb
    subst e1; subst e2
    refine ⟨_, ?_, okv_VR hv⟩
    rw [Sem.run_bind, guard_int, Result.andThen_ok]
    cases hsh : isSh op'
    · have : k = k' := by rcases hk with h | h; (rw [h] at hsh; cases hsh); exact h
      subst this
      exact (intBin_sound (ρ := ρ) hsh hi t).1
    · exact (sh_sound (ρ := ρ) hsh hi t).1
  | cat a b v x y ha hb hv hi =>
    have : BinOp.add = op := bcode_inj h1
    subst this
    have e1 := (syEq_dv h2 hu).symm.trans ha
    have e2 := (syEq_dv h3 hs).symm.trans hb
    subst e1; subst e2
    refine ⟨_, ?_, okv_VR hv⟩
    rw [Sem.run_bind, guard_str, Result.andThen_ok]
    exact (strBin_sound (ρ := ρ) hi t).1
  | neg => have := bcode_lt op; simp only at h1; omega
  | com => have := bcode_lt op; simp only at h1; omega
  | conv k => have := bcode_lt op; have := kcode_ge k; simp only at h1; omega
  | len => have := bcode_lt op; simp only at h1; omega
  | cut => have := bcode_lt op; simp only at h1; omega
  | cutn => have := bcode_lt op; simp only at h1; omega
  | pt => have := bcode_lt op; simp only at h1; omega

theorem bin_sound (c : Ctx P eqs ρ α a) {op : BinOp} {t t' : TypeId} {x y : Operand} {v : Value} (h : pBin op t x y t' (Env.of P eqs clone) α = some v) :
    Y P (do eqGuard op t x y (a.eval x) (a.eval y); binOp op t (a.eval x) (a.eval y)) ρ v w := by
  unfold pBin at h
  rw [ob_some] at h
  obtain ⟨u, hu, h⟩ := h
  rw [ob_some] at h
  obtain ⟨s, hs, h⟩ := h
  have hu' := c.opv hu
  have hs' := c.opv hs
  generalize a.eval x = ex at *
  generalize a.eval y = ey at *
  rw [bi_eq] at h
  split at h
  · exact factBin_sound op t x y hu' hs' h
  split at h
  · rw [bi_some_none, ob_some] at h
    obtain ⟨hc, r, hr, h⟩ := h
    obtain ⟨i, h1, h2, h3, h4, _⟩ := ty_spec hr
    cases hu'; cases hs'
    have hg : (eqGuard op t x y .nilIface .nilIface).run P w = .ok () w := by
      cases op <;> simp only [eqGuard] <;> first | rfl | skip
      all_goals (cases x <;> first | rfl | (cases y <;> first | rfl | (simp [isC] at hc)))
    split at h
    · rename_i hi
      injection h with h; subst h
      rw [hi] at h2
      have he : ∀ d, (Op.equalIn (d + 1) t .nilIface .nilIface).run P w = .ok true w := fun d => by simp [Op.equalIn, run_underlying h2]
      have he := he 9999
      refine ⟨.bool true, ?_, .bool _⟩
      rw [Sem.run_bind, hg, Result.andThen_ok]
      exact (binOp_eql_of (by simp) (by simp) (by simp) (by simp) he).1
    · rename_i hi
      injection h with h; subst h
      rw [hi] at h2
      have he : ∀ d, (Op.equalIn (d + 1) t .nilIface .nilIface).run P w = .ok true w := fun d => by simp [Op.equalIn, run_underlying h2]
      have he := he 9999
      refine ⟨.bool false, ?_, .bool _⟩
      rw [Sem.run_bind, hg, Result.andThen_ok]
      exact (binOp_eql_of (by simp) (by simp) (by simp) (by simp) he).2
    · cases h
  · unfold binE at h
    split at h
    · cases hu'; cases hs'
      rw [bi_eq, bi_eq] at h
      refine ⟨v, ?_, ?_⟩
      · rw [Sem.run_bind, guard_int, Result.andThen_ok]
        split at h
        · rename_i h1; exact (sh_sound (ρ := ρ) h1 h t).1
        · rename_i h1
          split at h
          · rename_i h2; rw [kEq_iff] at h2; subst h2
            exact (intBin_sound (ρ := ρ) (by simpa using h1) h t).1
          · cases h
      · split at h
        · rename_i h1; exact (sh_sound (w := w) (P := P) (k' := .i64) h1 h t).2
        · rename_i h1
          split at h
          · rename_i h2; rw [kEq_iff] at h2; subst h2
            exact (intBin_sound (w := w) (P := P) (by simpa using h1) h t).2
          · cases h
    · cases hu'; cases hs'
      refine ⟨v, ?_, (strBin_sound (w := w) (P := P) h t).2⟩
      rw [Sem.run_bind, guard_str, Result.andThen_ok]
      exact (strBin_sound (ρ := ρ) h t).1
    · split at h
      · rw [om_some] at h
        obtain ⟨b, hb, rfl⟩ := h
        obtain ⟨hg, he⟩ := eqV_sound (w := w) c hu' hs' hb .eql x y
        refine ⟨.bool b, ?_, .bool _⟩
        rw [Sem.run_bind, hg, Result.andThen_ok]
        obtain ⟨k1, k2, k3, k4⟩ := eqV_kind hu' hb
        exact (binOp_eql_of k1 k2 k3 k4 he).1
      · rw [om_some] at h
        obtain ⟨b, hb, rfl⟩ := h
        obtain ⟨hg, he⟩ := eqV_sound (w := w) c hu' hs' hb .neq x y
        refine ⟨.bool (bnot b), ?_, .bool _⟩
        rw [Sem.run_bind, hg, Result.andThen_ok]
        obtain ⟨k1, k2, k3, k4⟩ := eqV_kind hu' hb
        rw [bnot_eq]
        exact (binOp_eql_of k1 k2 k3 k4 he).2
      · cases h
end
end Go.Ev
end
