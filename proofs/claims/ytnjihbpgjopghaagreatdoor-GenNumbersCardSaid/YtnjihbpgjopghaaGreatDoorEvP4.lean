/- A part of an evaluator of closed runs, and that it is right. -/
import Derived.Test.YtnjihbpgjopghaaGreatDoorEvP3
set_option linter.unusedVariables false
set_option linter.unusedSimpArgs false
namespace Go.Ev
section
variable {P : Program} {eqs : List Nat} {clone : Nat} {ρ : Rho} {α : A} {a : Act} {w : World}

theorem strL_mk (l : List UInt8) : strL ⟨⟨l⟩⟩ = l := rfl
theorem toList_strL (s : ByteArray) : s.toList = strL s := by rw [ByteArray.toList_eq]; rfl
theorem size_strL (s : ByteArray) : s.size = (strL s).length := by cases s; rfl
theorem append_strL (x y : ByteArray) : x ++ y = ⟨⟨strL x ++ strL y⟩⟩ := by
  obtain ⟨⟨x⟩⟩ := x
  obtain ⟨⟨y⟩⟩ := y
  apply ByteArray.ext
  simp [strL]
theorem bytesLess_tri (x y : List UInt8) : (Op.bytesLess x y || (x == y)) = !Op.bytesLess y x := by
  induction x generalizing y with
  | nil => cases y <;> simp [Op.bytesLess]
  | cons a x ih =>
    cases y with
    | nil => simp [Op.bytesLess]
    | cons b y =>
      simp only [Op.bytesLess, List.cons_beq_cons]
      rcases Nat.lt_trichotomy a.toNat b.toNat with h | h | h
      · have h1 : a < b := UInt8.lt_iff_toNat_lt.2 h
        have h2 : ¬ b < a := fun e => by have := UInt8.lt_iff_toNat_lt.1 e; omega
        have h3 : ¬ b = a := fun e => by rw [e] at h; omega
        simp [h1, h2, h3]
      · have h1 : a = b := UInt8.toNat_inj.1 h
        subst h1
        have := ih y
        simp [this]
      · have h1 : b < a := UInt8.lt_iff_toNat_lt.2 h
        have h2 : ¬ a < b := fun e => by have := UInt8.lt_iff_toNat_lt.1 e; omega
        have h3 : ¬ a = b := fun e => by rw [e] at h; omega
        simp [h1, h2, h3]
theorem strBin_sound {op : BinOp} {x y : ByteArray} {v : Value} (h : strBin op (strL x) (strL y) = some v) (t : TypeId) :
    (binOp op t (.string x) (.string y)).run P w = .ok v w ∧ VR ρ v v := by
  cases op <;> simp only [strBin] at h <;> first | (cases h; done) | skip
  case add =>
    rw [bi_some_none] at h
    obtain ⟨h1, h2⟩ := h
    injection h2 with h2; subst h2
    have h1 := Nat.le_of_ble_eq_true h1
    refine ⟨?_, .string _⟩
    have : ¬ ((x.size + y.size : Nat) : Int) > IntKind.i64.max := by
      rw [size_strL, size_strL]
      have : IntKind.i64.max = 9223372036854775807 := rfl
      omega
    simp only [binOp, Op.stringOp, this, if_false, Sem.run_pure, append_strL]
  all_goals
    injection h with h; subst h
    refine ⟨?_, .bool _⟩
    simp only [binOp, Op.stringOp, toList_strL, bytesEq_eq, bytesLt_eq, bnot_eq, Sem.run_pure, bytesLess_tri, Bool.not_not]

theorem eqV_sound (c : Ctx P eqs ρ α a) {t : TypeId} {x y x' y' : Value} {b : Bool} (hx : VR ρ x x') (hy : VR ρ y y') (h : eqV (Env.of P eqs clone) t x y = some b) (o : BinOp) (p q : Operand) :
    (eqGuard o t p q x' y').run P w = .ok () w ∧ (Op.equalIn 10000 t x' y').run P w = .ok b w := by
  unfold eqV at h
  split at h
  · cases hx with
    | agg _ _ hx => cases hy with
      | agg _ _ hy =>
        obtain ⟨h1, h2⟩ := eqAgg_sound (w := w) c hx hy h
        exact ⟨run_eqGuard_agg w o t p q _ _ h1, h2⟩
  · rw [ob_some] at h
    obtain ⟨r, hr, h⟩ := h
    obtain ⟨i, h1, h2, h3, h4, _⟩ := ty_spec hr
    refine ⟨?_, eqN_sound h2 hx hy h 9999⟩
    unfold eqN at h
    split at h <;> first | (cases h; done) | (cases hx <;> cases hy <;> cases o <;> simp [eqGuard])

theorem guard_int (o : BinOp) (t : TypeId) (p q : Operand) (k k' : IntKind) (x y : Int) : (eqGuard o t p q (.int k x) (.int k' y)).run P w = .ok () w := by
  cases o <;> simp [eqGuard]
theorem guard_str (o : BinOp) (t : TypeId) (p q : Operand) (x y : ByteArray) : (eqGuard o t p q (.string x) (.string y)).run P w = .ok () w := by
  cases o <;> simp [eqGuard]

theorem binOp_eql_of {t : TypeId} {x' y' : Value} {b : Bool} (hn : ∀ k n, x' ≠ .int k n) (hs : ∀ s, x' ≠ .string s) (hf : ∀ k n, x' ≠ .float k n) (hc : ∀ k n m, x' ≠ .complex k n m) (h : (Op.equalIn 10000 t x' y').run P w = .ok b w) :
    (binOp .eql t x' y').run P w = .ok (.bool b) w ∧ (binOp .neq t x' y').run P w = .ok (.bool (!b)) w := by
  have h' : (Op.equal t x' y').run P w = .ok b w := h
  cases x' <;> first | exact absurd rfl (hn _ _) | exact absurd rfl (hs _) | exact absurd rfl (hf _ _) | exact absurd rfl (hc _ _ _) | skip
  all_goals cases y' <;> simp [binOp, h']

theorem eqV_kind {E : Env} {t : TypeId} {x y x' : Value} {b : Bool} (hx : VR ρ x x') (h : eqV E t x y = some b) :
    (∀ k n, x' ≠ .int k n) ∧ (∀ s, x' ≠ .string s) ∧ (∀ k n, x' ≠ .float k n) ∧ (∀ k n m, x' ≠ .complex k n m) := by
  unfold eqV at h
  split at h
  · cases hx; simp
  · rw [ob_some] at h
    obtain ⟨r, hr, h⟩ := h
    unfold eqN at h
    split at h <;> first | (cases h; done) | (cases hx <;> simp)

theorem bin_sound (c : Ctx P eqs ρ α a) {op : BinOp} {t t' : TypeId} {x y : Operand} {v : Value} (h : pBin op t x y t' (Env.of P eqs clone) α = some v) :
    Y P (do eqGuard op t x y (a.eval x) (a.eval y); binOp op t (a.eval x) (a.eval y)) ρ v w := by
  unfold pBin at h
  rw [ob_some] at h
  obtain ⟨u, hu, h⟩ := h
  rw [ob_some] at h
  obtain ⟨s, hs, h⟩ := h
  have hu' := c.opv hu
  have hs' := c.opv hs
  generalize a.eval x = ex at *
  generalize a.eval y = ey at *
  split at h
  · rw [bi_some_none, ob_some] at h
    obtain ⟨hc, r, hr, h⟩ := h
    obtain ⟨i, h1, h2, h3, h4, _⟩ := ty_spec hr
    cases hu'; cases hs'
    have hg : (eqGuard op t x y .nilIface .nilIface).run P w = .ok () w := by
      cases op <;> simp only [eqGuard] <;> first | rfl | skip
      all_goals (cases x <;> first | rfl | (cases y <;> first | rfl | (simp [isC] at hc)))
    split at h
    · rename_i hi
      injection h with h; subst h
      rw [hi] at h2
      have he : ∀ d, (Op.equalIn (d + 1) t .nilIface .nilIface).run P w = .ok true w := fun d => by simp [Op.equalIn, run_underlying h2]
      have he := he 9999
      refine ⟨.bool true, ?_, .bool _⟩
      rw [Sem.run_bind, hg, Result.andThen_ok]
      exact (binOp_eql_of (by simp) (by simp) (by simp) (by simp) he).1
    · rename_i hi
      injection h with h; subst h
      rw [hi] at h2
      have he : ∀ d, (Op.equalIn (d + 1) t .nilIface .nilIface).run P w = .ok true w := fun d => by simp [Op.equalIn, run_underlying h2]
      have he := he 9999
      refine ⟨.bool false, ?_, .bool _⟩
      rw [Sem.run_bind, hg, Result.andThen_ok]
      exact (binOp_eql_of (by simp) (by simp) (by simp) (by simp) he).2
    · cases h
  · unfold binE at h
    split at h
    · cases hu'; cases hs'
      rw [bi_eq, bi_eq] at h
      refine ⟨v, ?_, ?_⟩
      · rw [Sem.run_bind, guard_int, Result.andThen_ok]
        split at h
        · rename_i h1; exact (sh_sound (ρ := ρ) h1 h t).1
        · rename_i h1
          split at h
          · rename_i h2; rw [kEq_iff] at h2; subst h2
            exact (intBin_sound (ρ := ρ) (by simpa using h1) h t).1
          · cases h
      · split at h
        · rename_i h1; exact (sh_sound (w := w) (P := P) (k' := .i64) h1 h t).2
        · rename_i h1
          split at h
          · rename_i h2; rw [kEq_iff] at h2; subst h2
            exact (intBin_sound (w := w) (P := P) (by simpa using h1) h t).2
          · cases h
    · cases hu'; cases hs'
      refine ⟨v, ?_, (strBin_sound (w := w) (P := P) h t).2⟩
      rw [Sem.run_bind, guard_str, Result.andThen_ok]
      exact (strBin_sound (ρ := ρ) h t).1
    · split at h
      · rw [om_some] at h
        obtain ⟨b, hb, rfl⟩ := h
        obtain ⟨hg, he⟩ := eqV_sound (w := w) c hu' hs' hb .eql x y
        refine ⟨.bool b, ?_, .bool _⟩
        rw [Sem.run_bind, hg, Result.andThen_ok]
        obtain ⟨k1, k2, k3, k4⟩ := eqV_kind hu' hb
        exact (binOp_eql_of k1 k2 k3 k4 he).1
      · rw [om_some] at h
        obtain ⟨b, hb, rfl⟩ := h
        obtain ⟨hg, he⟩ := eqV_sound (w := w) c hu' hs' hb .neq x y
        refine ⟨.bool (bnot b), ?_, .bool _⟩
        rw [Sem.run_bind, hg, Result.andThen_ok]
        obtain ⟨k1, k2, k3, k4⟩ := eqV_kind hu' hb
        rw [bnot_eq]
        exact (binOp_eql_of k1 k2 k3 k4 he).2
      · cases h
end
end Go.Ev
