/- A part of an evaluator of runs, and that it is right. -/
import Derived.Test.YtcfneeeieofkeaaGreatDoorEvP3
set_option linter.unusedVariables false
set_option linter.unusedSimpArgs false
set_option linter.unusedSectionVars false
namespace Go.Ev
variable [Den]
section
variable {P : Program} {eqs : List Nat} {clone : Nat} {ρ : Rho} {α : A} {a : Act} {w : World}

theorem strL_mk (l : List UInt8) : strL ⟨⟨l⟩⟩ = l := rfl
theorem toList_strL (s : ByteArray) : s.toList = strL s := by rw [ByteArray.toList_eq]; rfl
theorem size_strL (s : ByteArray) : s.size = (strL s).length := by cases s; rfl
theorem append_strL (x y : ByteArray) : x ++ y = ⟨⟨strL x ++ strL y⟩⟩ := by
  obtain ⟨⟨x⟩⟩ := x
  obtain ⟨⟨y⟩⟩ := y
  apply ByteArray.ext
  simp [strL]
theorem bytesLess_tri (x y : List UInt8) : (Op.bytesLess x y || (x == y)) = !Op.bytesLess y x := by
  induction x generalizing y with
  | nil => cases y <;> simp [Op.bytesLess]
  | cons a x ih =>
    cases y with
    | nil => simp [Op.bytesLess]
    | cons b y =>
      simp only [Op.bytesLess, List.cons_beq_cons]
      rcases Nat.lt_trichotomy a.toNat b.toNat with h | h | h
      · have h1 : a < b := UInt8.lt_iff_toNat_lt.2 h
        have h2 : ¬ b < a := fun e => by have := UInt8.lt_iff_toNat_lt.1 e; omega
        have h3 : ¬ b = a := fun e => by rw [e] at h; omega
        simp [h1, h2, h3]
      · have h1 : a = b := UInt8.toNat_inj.1 h
        subst h1
        have := ih y
        simp [this]
      · have h1 : b < a := UInt8.lt_iff_toNat_lt.2 h
        have h2 : ¬ a < b := fun e => by have := UInt8.lt_iff_toNat_lt.1 e; omega
        have h3 : ¬ a = b := fun e => by rw [e] at h; omega
        simp [h1, h2, h3]
theorem strBin_sound {op : BinOp} {x y : ByteArray} {v : Value} (h : strBin op (strL x) (strL y) = some v) (t : TypeId) :
    (binOp op t (.string x) (.string y)).run P w = .ok v w ∧ VR ρ v v := by
  cases op <;> simp only [strBin] at h <;> first | (cases h; done) | skip
  case add =>
    rw [bi_some_none] at h
    obtain ⟨h1, h2⟩ := h
    injection h2 with h2; subst h2
    have h1 := Nat.le_of_ble_eq_true h1
    refine ⟨?_, .string _⟩
    have : ¬ ((x.size + y.size : Nat) : Int) > IntKind.i64.max := by
      rw [size_strL, size_strL]
      have : IntKind.i64.max = 9223372036854775807 := rfl
      omega
    simp only [binOp, Op.stringOp, this, if_false, Sem.run_pure, append_strL]
  all_goals
    injection h with h; subst h
    refine ⟨?_, .bool _⟩
    simp only [binOp, Op.stringOp, toList_strL, bytesEq_eq, bytesLt_eq, bnot_eq, Sem.run_pure, bytesLess_tri, Bool.not_not]

theorem eqV_sound (c : Ctx P eqs ρ α a) {t : TypeId} {x y x' y' : Value} {b : Bool} (hx : VR ρ x x') (hy : VR ρ y y') (h : eqV (Env.of P eqs clone) t x y = some b) (o : BinOp) (p q : Operand) :
    (eqGuard o t p q x' y').run P w = .ok () w ∧ (Op.equalIn 10000 t x' y').run P w = .ok b w := by
  unfold eqV at h
  split at h
  · cases hx with
    | agg _ _ hx => cases hy with
      | agg _ _ hy =>
        obtain ⟨h1, h2⟩ := eqAgg_sound (w := w) c hx hy h
        exact ⟨run_eqGuard_agg w o t p q _ _ h1, h2⟩
  · rw [ob_some] at h
    obtain ⟨r, hr, h⟩ := h
    obtain ⟨i, h1, h2, h3, h4, _⟩ := ty_spec hr
    refine ⟨?_, eqN_sound h2 hx hy h 9999⟩
    unfold eqN at h
    split at h <;> first | (cases h; done) | (cases hx <;> cases hy <;> cases o <;> simp [eqGuard])

theorem guard_int (o : BinOp) (t : TypeId) (p q : Operand) (k k' : IntKind) (x y : Int) : (eqGuard o t p q (.int k x) (.int k' y)).run P w = .ok () w := by
  cases o <;> simp [eqGuard]
theorem guard_str (o : BinOp) (t : TypeId) (p q : Operand) (x y : ByteArray) : (eqGuard o t p q (.string x) (.string y)).run P w = .ok () w := by
  cases o <;> simp [eqGuard]

theorem binOp_eql_of {t : TypeId} {x' y' : Value} {b : Bool} (hn : ∀ k n, x' ≠ .int k n) (hs : ∀ s, x' ≠ .string s) (hf : ∀ k n, x' ≠ .float k n) (hc : ∀ k n m, x' ≠ .complex k n m) (h : (Op.equalIn 10000 t x' y').run P w = .ok b w) :
    (binOp .eql t x' y').run P w = .ok (.bool b) w ∧ (binOp .neq t x' y').run P w = .ok (.bool (!b)) w := by
  have h' : (Op.equal t x' y').run P w = .ok b w := h
  cases x' <;> first | exact absurd rfl (hn _ _) | exact absurd rfl (hs _) | exact absurd rfl (hf _ _) | exact absurd rfl (hc _ _ _) | skip
  all_goals cases y' <;> simp [binOp, h']

theorem eqV_kind {E : Env} {t : TypeId} {x y x' : Value} {b : Bool} (hx : VR ρ x x') (h : eqV E t x y = some b) :
    (∀ k n, x' ≠ .int k n) ∧ (∀ s, x' ≠ .string s) ∧ (∀ k n, x' ≠ .float k n) ∧ (∀ k n m, x' ≠ .complex k n m) := by
  unfold eqV at h
  split at h
  · cases hx; simp
  · rw [ob_some] at h
    obtain ⟨r, hr, h⟩ := h
    unfold eqN at h
    split at h <;> first | (cases h; done) | (cases hx <;> simp)

theorem syEq_dv {u v ex : Value} (h : syEq u v = true) (hv : VR ρ v ex) : dv DenD.den u = ex := by
  unfold syEq at h
  split at h
  · have h := Nat.eq_of_beq_eq_true h
    subst h
    cases hv with
    | sym c w hw hs => exact hw
  · rw [bi_tf, kEq_iff, ieq_iff] at h
    obtain ⟨h1, h2⟩ := h
    subst h1; subst h2
    cases hv; rfl
  · rw [beqB_eq] at h
    have h := eq_of_beq h
    subst h
    cases hv; rfl
  · cases h
theorem okv_VR {v : Value} (h : okv DenD.den v = true) : VR ρ v (dv DenD.den v) := by
  unfold okv at h
  unfold dv
  split at h
  · exact .sym _ _ rfl h
  · exact flat1_VR h
theorem lookF_cons (f : Fact) (l : List Fact) (op : Nat) (a b : Value) : lookF (f :: l) op a b = bi (Nat.beq f.op op) (bi (syEq f.a a) (bi (syEq f.b b) (some f.v) (lookF l op a b)) (lookF l op a b)) (lookF l op a b) := rfl
theorem lookF_mem {op : Nat} {a b v : Value} : ∀ {l : List Fact}, lookF l op a b = some v → ∃ f ∈ l, f.op = op ∧ syEq f.a a = true ∧ syEq f.b b = true ∧ f.v = v := by
  intro l
  induction l with
  | nil => intro h; cases h
  | cons f l ih =>
    intro h
    have tl : lookF l op a b = some v → ∃ g ∈ f :: l, g.op = op ∧ syEq g.a a = true ∧ syEq g.b b = true ∧ g.v = v := fun h => let ⟨g, h1, h2⟩ := ih h; ⟨g, List.mem_cons_of_mem _ h1, h2⟩
    rw [lookF_cons] at h
    cases h1 : Nat.beq f.op op
    · rw [h1] at h; exact tl h
    cases h2 : syEq f.a a
    · rw [h1, h2] at h; exact tl h
    cases h3 : syEq f.b b
    · rw [h1, h2, h3] at h; exact tl h
    rw [h1, h2, h3] at h
    injection h with h
    exact ⟨f, List.mem_cons_self .., Nat.eq_of_beq_eq_true h1, h2, h3, h⟩
theorem bcode_inj {o p : BinOp} (h : bcode o = bcode p) : o = p := by cases o <;> cases p <;> first | rfl | (cases h; done)
theorem bcode_lt (o : BinOp) : bcode o < 17 := by cases o <;> decide
theorem kcode_ge (k : IntKind) : 20 ≤ kcode k := by cases k <;> decide
theorem kcode_le (k : IntKind) : kcode k < 30 := by cases k <;> decide
theorem kcode_inj {o p : IntKind} (h : kcode o = kcode p) : o = p := by cases o <;> cases p <;> first | rfl | (cases h; done)
theorem factBin_sound (op : BinOp) (t : TypeId) (p q : Operand) {u s v ex ey : Value} (hu : VR ρ u ex) (hs : VR ρ s ey) (h : lookF (Env.of P eqs clone).facts (bcode op) u s = some v) :
    Y P (do eqGuard op t p q ex ey; binOp op t ex ey) ρ v w := by
  obtain ⟨f, hm, h1, h2, h3, rfl⟩ := lookF_mem h
  have hf := Den.ok f hm
  cases hf with
  | bin op' a b v k k' x y ha hb hk hv hi =>
    have := bcode_inj h1
    subst this
    have e1 := (syEq_dv h2 hu).symm.trans ha
    have e2 := (syEq_dv h3 hs).symm.trans hb
    subst e1; subst e2
    refine ⟨_, ?_, okv_VR hv⟩
    rw [Sem.run_bind, guard_int, Result.andThen_ok]
    cases hsh : isSh op'
    · have : k = k' := by rcases hk with h | h; (rw [h] at hsh; cases hsh); exact h
      subst this
      exact (intBin_sound (ρ := ρ) hsh hi t).1
    · exact (sh_sound (ρ := ρ) hsh hi t).1
  | neg => have := bcode_lt op; simp only at h1; omega
  | com => have := bcode_lt op; simp only at h1; omega
  | conv k => have := bcode_lt op; have := kcode_ge k; simp only at h1; omega
  | len => have := bcode_lt op; simp only at h1; omega
  | cut => have := bcode_lt op; simp only at h1; omega
  | cutn => have := bcode_lt op; simp only at h1; omega

theorem bin_sound (c : Ctx P eqs ρ α a) {op : BinOp} {t t' : TypeId} {x y : Operand} {v : Value} (h : pBin op t x y t' (Env.of P eqs clone) α = some v) :
    Y P (do eqGuard op t x y (a.eval x) (a.eval y); binOp op t (a.eval x) (a.eval y)) ρ v w := by
  unfold pBin at h
  rw [ob_some] at h
  obtain ⟨u, hu, h⟩ := h
  rw [ob_some] at h
  obtain ⟨s, hs, h⟩ := h
  have hu' := c.opv hu
  have hs' := c.opv hs
  generalize a.eval x = ex at *
  generalize a.eval y = ey at *
  rw [bi_eq] at h
  split at h
  · exact factBin_sound op t x y hu' hs' h
  split at h
  · rw [bi_some_none, ob_some] at h
    obtain ⟨hc, r, hr, h⟩ := h
    obtain ⟨i, h1, h2, h3, h4, _⟩ := ty_spec hr
    cases hu'; cases hs'
    have hg : (eqGuard op t x y .nilIface .nilIface).run P w = .ok () w := by
      cases op <;> simp only [eqGuard] <;> first | rfl | skip
      all_goals (cases x <;> first | rfl | (cases y <;> first | rfl | (simp [isC] at hc)))
    split at h
    · rename_i hi
      injection h with h; subst h
      rw [hi] at h2
      have he : ∀ d, (Op.equalIn (d + 1) t .nilIface .nilIface).run P w = .ok true w := fun d => by simp [Op.equalIn, run_underlying h2]
      have he := he 9999
      refine ⟨.bool true, ?_, .bool _⟩
      rw [Sem.run_bind, hg, Result.andThen_ok]
      exact (binOp_eql_of (by simp) (by simp) (by simp) (by simp) he).1
    · rename_i hi
      injection h with h; subst h
      rw [hi] at h2
      have he : ∀ d, (Op.equalIn (d + 1) t .nilIface .nilIface).run P w = .ok true w := fun d => by simp [Op.equalIn, run_underlying h2]
      have he := he 9999
      refine ⟨.bool false, ?_, .bool _⟩
      rw [Sem.run_bind, hg, Result.andThen_ok]
      exact (binOp_eql_of (by simp) (by simp) (by simp) (by simp) he).2
    · cases h
  · unfold binE at h
    split at h
    · cases hu'; cases hs'
      rw [bi_eq, bi_eq] at h
      refine ⟨v, ?_, ?_⟩
      · rw [Sem.run_bind, guard_int, Result.andThen_ok]
        split at h
        · rename_i h1; exact (sh_sound (ρ := ρ) h1 h t).1
        · rename_i h1
          split at h
          · rename_i h2; rw [kEq_iff] at h2; subst h2
            exact (intBin_sound (ρ := ρ) (by simpa using h1) h t).1
          · cases h
      · split at h
        · rename_i h1; exact (sh_sound (w := w) (P := P) (k' := .i64) h1 h t).2
        · rename_i h1
          split at h
          · rename_i h2; rw [kEq_iff] at h2; subst h2
            exact (intBin_sound (w := w) (P := P) (by simpa using h1) h t).2
          · cases h
    · cases hu'; cases hs'
      refine ⟨v, ?_, (strBin_sound (w := w) (P := P) h t).2⟩
      rw [Sem.run_bind, guard_str, Result.andThen_ok]
      exact (strBin_sound (ρ := ρ) h t).1
    · split at h
      · rw [om_some] at h
        obtain ⟨b, hb, rfl⟩ := h
        obtain ⟨hg, he⟩ := eqV_sound (w := w) c hu' hs' hb .eql x y
        refine ⟨.bool b, ?_, .bool _⟩
        rw [Sem.run_bind, hg, Result.andThen_ok]
        obtain ⟨k1, k2, k3, k4⟩ := eqV_kind hu' hb
        exact (binOp_eql_of k1 k2 k3 k4 he).1
      · rw [om_some] at h
        obtain ⟨b, hb, rfl⟩ := h
        obtain ⟨hg, he⟩ := eqV_sound (w := w) c hu' hs' hb .neq x y
        refine ⟨.bool (bnot b), ?_, .bool _⟩
        rw [Sem.run_bind, hg, Result.andThen_ok]
        obtain ⟨k1, k2, k3, k4⟩ := eqV_kind hu' hb
        rw [bnot_eq]
        exact (binOp_eql_of k1 k2 k3 k4 he).2
      · cases h
end
end Go.Ev
