/- A part of an evaluator of runs, and that it is right. -/
import Derived.Test.YtbkojaiecgdodaaDoorEvP4
set_option linter.unusedVariables false
set_option linter.unusedSimpArgs false
set_option linter.unusedSectionVars false
namespace Go.Ev
variable [Den]
section
variable {P : Program} {eqs : List Nat} {clone : Sp} {ρ : Rho} {α : A} {a : Act} {w : World}

theorem un_sound (c : Ctx P eqs ρ α a) {op : UnOp} {t : TypeId} {x : Operand} {v : Value} (h : pUn op t x (Env.of P eqs clone) α = some v) :
    Y P (Op.unary op (a.eval x)) ρ v w := by
  unfold pUn at h
  rw [ob_some] at h
  obtain ⟨u, hu, h⟩ := h
  have hu' := c.opv hu
  generalize a.eval x = ex at *
  rw [bi_eq] at h
  split at h
  · obtain ⟨f, hm, h1, h2, h3, rfl⟩ := lookF_mem h
    have hf := Den.ok f hm
    cases hf with
    | bin op' => have := bcode_lt op'; simp only at h1; cases op <;> simp only [ucode] at h1 <;> omega
    | cat => simp only at h1; cases op <;> simp only [ucode] at h1 <;> omega
    | neg a v k x ha hv hi =>
      have : op = .neg := by cases op <;> first | rfl | (cases h1; done)
      subst this
      have e1 := (syEq_dv h2 hu').symm.trans ha
      subst e1
      exact ⟨_, by rw [hi]; simp [Op.unary, Op.intArith], okv_VR hv⟩
    | com a v k x ha hv hi =>
      have : op = .xor := by cases op <;> first | rfl | (cases h1; done)
      subst this
      have e1 := (syEq_dv h2 hu').symm.trans ha
      subst e1
      have := intBin_sound (P := P) (ρ := ρ) (w := w) (op := .xor) rfl hi 0
      refine ⟨_, ?_, okv_VR hv⟩
      rw [← this.1]
      simp [Op.unary, binOp]
    | conv k => have := kcode_ge k; simp only at h1; cases op <;> simp only [ucode] at h1 <;> omega
    | len => simp only at h1; cases op <;> simp only [ucode] at h1 <;> omega
    | cut => simp only at h1; cases op <;> simp only [ucode] at h1 <;> omega
    | cutn => simp only at h1; cases op <;> simp only [ucode] at h1 <;> omega
    | pt => simp only at h1; cases op <;> simp only [ucode] at h1 <;> omega
  unfold unE at h
  split at h
  · injection h with h; subst h
    cases hu'
    exact ⟨_, by simp only [Op.unary, Op.intArith, Sem.run_pure, wrapF_eq]; rfl, .int _ _⟩
  · injection h with h; subst h
    cases hu'
    exact ⟨_, by simp only [Op.unary, Sem.run_pure, bnot_eq], .bool _⟩
  · cases hu'
    have := intBin_sound (P := P) (ρ := ρ) (w := w) (op := .xor) rfl h 0
    refine ⟨v, ?_, this.2⟩
    rw [← this.1]
    simp [Op.unary, binOp]
  · cases h

theorem conv_sound (c : Ctx P eqs ρ α a) {s d : TypeId} {x : Operand} {v : Value} (h : pConv s d x (Env.of P eqs clone) α = some v) :
    Y P (convert s d (a.eval x)) ρ v w := by
  unfold pConv at h
  rw [ob_some] at h
  obtain ⟨u, hu, h⟩ := h
  rw [ob_some] at h
  obtain ⟨rs, hrs, h⟩ := h
  rw [ob_some] at h
  obtain ⟨rd, hrd, h⟩ := h
  have hu' := c.opv hu
  generalize a.eval x = ex at *
  split at h
  · rename_i k cc hd
    obtain ⟨f, hm, h1, h2, h3, rfl⟩ := lookF_mem h
    have hf := Den.ok f hm
    cases hf with
    | bin op' => have := bcode_lt op'; have := kcode_ge k; simp only at h1; omega
    | cat => have := kcode_ge k; simp only at h1; omega
    | neg => have := kcode_ge k; simp only at h1; omega
    | com => have := kcode_ge k; simp only at h1; omega
    | len => have := kcode_le k; simp only at h1; omega
    | cut => have := kcode_le k; simp only at h1; omega
    | cutn => have := kcode_le k; simp only at h1; omega
    | pt => have := kcode_le k; simp only at h1; omega
    | conv k2 a v k0 x0 ha hv hi =>
      have := kcode_inj h1
      subst this
      have e1 := (syEq_dv h2 hu').symm.trans ha
      subst e1
      refine ⟨_, ?_, okv_VR hv⟩
      simp only [convert, Sem.run_bind, run_under hrs, run_under hrd, Result.andThen_ok, hd, Conv.intToInt, hi]
      cases rs.u <;> rfl
  · rename_i k k' n hd
    injection h with h; subst h
    cases hu'
    refine ⟨_, ?_, .int _ _⟩
    simp only [convert, Sem.run_bind, run_under hrs, run_under hrd, Result.andThen_ok, hd, Conv.intToInt, wrapF_eq]
    cases rs.u <;> rfl
  · rename_i b hd
    split at h
    · rename_i hs
      injection h with h; subst h
      cases hu'
      refine ⟨_, ?_, .string _⟩
      simp only [convert, Sem.run_bind, run_under hrs, run_under hrd, Result.andThen_ok, hd, hs]
      rfl
    · cases h
  · cases h

theorem iface_sound (c : Ctx P eqs ρ α a) {t : TypeId} {x : Operand} {v : Value} (h : pIface t x (Env.of P eqs clone) α = some v) :
    Y P (Instr.makeInterface t (a.eval x)) ρ v w := by
  unfold pIface at h
  rw [ob_some] at h
  obtain ⟨u, hu, h⟩ := h
  rw [ob_some] at h
  obtain ⟨r, hr, h⟩ := h
  have hu' := c.opv hu
  generalize a.eval x = ex at *
  split at h
  · cases h
  · rename_i hni
    injection h with h; subst h
    refine ⟨.iface t ex, ?_, .iface _ _ _ hu'⟩
    simp only [Instr.makeInterface, Sem.run_bind, run_under hr, Result.andThen_ok]
    try rfl

theorem func_sound (c : Ctx P eqs ρ α a) {fn : Fn} {x y : Array Operand} {v : Value} (h : pFunc fn x y (Env.of P eqs clone) α = some v) :
    Y P (Instr.makeFunc fn (x.map a.eval) (y.map a.eval)) ρ v w := by
  unfold pFunc at h
  split at h
  · rename_i g0
    rw [ob_some] at h
    obtain ⟨f, hf, h⟩ := h
    rw [om_some] at h
    obtain ⟨g, hg, rfl⟩ := h
    refine ⟨_, rfl, ?_⟩
    have h1 := c.opvs hf
    have h2 := c.opvs hg
    obtain ⟨x⟩ := x
    obtain ⟨y⟩ := y
    simpa using VR.func g0 _ _ _ _ h1 h2
  · cases h

theorem nil_sound (c : Ctx P eqs ρ α a) {x : Operand} {v : Value} (h : pNil x (Env.of P eqs clone) α = some v) (o : Oper) (ho : o.op = .nilCheck x) :
    ∃ v', (execOp a.eval o).run P w = .ok (.value v') w ∧ VR ρ v v' := by
  unfold pNil at h
  rw [ob_some] at h
  obtain ⟨u, hu, h⟩ := h
  have hu' := c.opv hu
  simp only [execOp, ho]
  generalize a.eval x = ex at *
  split at h
  · injection h with h; subst h
    cases hu' with
    | ptr b o B base hb => exact ⟨_, rfl, .ptr _ _ _ _ hb⟩
  · injection h with h; subst h
    cases hu' with
    | func _ _ _ _ _ h k => exact ⟨_, rfl, .func _ _ _ _ _ h k⟩
  · cases h

-- addresses
theorem addr_add (b o n : Nat) : (⟨b, o, none⟩ : Addr).add n = ⟨b, o + n, none⟩ := by
  unfold Addr.add; split <;> simp_all

theorem fieldAddr_sound (c : Ctx P eqs ρ α a) {t : TypeId} {x : Operand} {i : Nat} {v : Value} (h : pFieldAddr t x i (Env.of P eqs clone) α = some v) :
    Y P (Instr.fieldAt t (a.eval x) i) ρ v w := by
  unfold pFieldAddr at h
  rw [ob_some] at h
  obtain ⟨u, hu, h⟩ := h
  rw [ob_some] at h
  obtain ⟨r, hr, h⟩ := h
  have hu' := c.opv hu
  generalize a.eval x = ex at *
  split at h
  · rename_i fs b o hty
    rw [ob_some] at h
    obtain ⟨f, hf, h⟩ := h
    rw [ob_some] at h
    obtain ⟨rf, hrf, h⟩ := h
    split at h
    · cases h
    · rename_i k hk
      injection h with h; subst h
      cases hu' with
      | ptr b o B base hb =>
        have hf : fs[i]? = some f := by simpa using hf
        refine ⟨.pointer (some ⟨B, base + (o + f.offset), none⟩), ?_, .ptr _ _ _ _ hb⟩
        have hs : (sizeOf f.type).run P w = .ok (k + 1) w := by rw [run_size hrf, hk]
        simp [Instr.fieldAt, run_under hr, hty, hf, Instr.sureAddr, fieldPlace, hs, addr_add, Nat.add_assoc]
  · cases h

theorem field_sound (c : Ctx P eqs ρ α a) {t : TypeId} {x : Operand} {i : Nat} {v : Value} (h : pField t x i (Env.of P eqs clone) α = some v) :
    Y P (Instr.field t (a.eval x) i) ρ v w := by
  unfold pField at h
  rw [ob_some] at h
  obtain ⟨u, hu, h⟩ := h
  rw [ob_some] at h
  obtain ⟨r, hr, h⟩ := h
  have hu' := c.opv hu
  generalize a.eval x = ex at *
  split at h
  · rename_i fs cs hty
    rw [ob_some] at h
    obtain ⟨f, hf, h⟩ := h
    cases hu' with
    | agg _ ys hxs =>
      have hf : fs[i]? = some f := by simpa using hf
      obtain ⟨v', h1, h2⟩ := part_sound (w := w) (cs' := ⟨ys⟩) hxs h
      exact ⟨v', by simp [Instr.field, run_under hr, hty, hf, asAgg, h1], h2⟩
  · cases h

theorem idx_sound {i i' : Value} {n k : Nat} (hi : VR ρ i i') (h : idx i n = some k) : ∃ kd, i' = .int kd k ∧ k < n := by
  unfold idx at h
  split at h
  · rw [bi_some_none] at h
    obtain ⟨h1, h2⟩ := h
    injection h2 with h2; subst h2
    cases hi
    exact ⟨_, rfl, by have := Nat.le_of_ble_eq_true h1; omega⟩
  · cases h

theorem normE_sound {v x : Value} (h : VR ρ v x) : VR ρ (normE (Env.of P eqs clone) v) x := by
  unfold normE
  split
  · rename_i c
    split
    · rename_i u hu
      obtain ⟨f, hm, h1, h2, h3, rfl⟩ := lookF_mem hu
      have hf := Den.ok f hm
      cases hf with
      | bin op' => have := bcode_lt op'; simp only at h1; omega
      | cat => simp only at h1; omega
      | neg => simp only at h1; omega
      | com => simp only at h1; omega
      | conv k => have := kcode_le k; simp only at h1; omega
      | len => simp only at h1; omega
      | cut => simp only at h1; omega
      | cutn => simp only at h1; omega
      | pt a2 v2 k n ha hv =>
        have e1 := (syEq_dv h2 h).symm.trans ha
        subst e1; subst hv
        exact .int _ _
    · exact h
  · exact h
theorem indexAddr_sound (c : Ctx P eqs ρ α a) {t : TypeId} {x y : Operand} {v : Value} (h : pIndexAddr t x y (Env.of P eqs clone) α = some v) :
    Y P (Instr.indexAt t (a.eval x) (a.eval y)) ρ v w := by
  unfold pIndexAddr at h
  rw [ob_some] at h
  obtain ⟨u, hu, h⟩ := h
  rw [ob_some] at h
  obtain ⟨s, hs, h⟩ := h
  rw [ob_some] at h
  obtain ⟨r, hr, h⟩ := h
  have hu' := c.opv hu
  have hs' := normE_sound (P := P) (eqs := eqs) (clone := clone) (c.opv hs)
  generalize normE (Env.of P eqs clone) s = s at *
  generalize a.eval x = ex at *
  generalize a.eval y = ey at *
  split at h
  · rename_i n e b o hty
    rw [ob_some] at h
    obtain ⟨re, hre, h⟩ := h
    rw [om_some] at h
    obtain ⟨i, hi, rfl⟩ := h
    obtain ⟨kd, rfl, hlt⟩ := idx_sound hs' hi
    cases hu' with
    | ptr b o B base hb =>
      refine ⟨.pointer (some ⟨B, base + (o + i * re.size), none⟩), ?_, .ptr _ _ _ _ hb⟩
      have h1 : (0 : Int) ≤ i := by omega
      have h2 : (i : Int) < n := by omega
      simp [Instr.indexAt, run_under hr, hty, Instr.sureAddr, asIntOf, run_size hre, hlt, addr_add, Nat.add_assoc]
  · rename_i e b o n cap hty
    rw [ob_some] at h
    obtain ⟨re, hre, h⟩ := h
    rw [om_some] at h
    obtain ⟨i, hi, rfl⟩ := h
    obtain ⟨kd, rfl, hlt⟩ := idx_sound hs' hi
    cases hu' with
    | slice b o n c B base c' hb hc hl =>
      refine ⟨.pointer (some ⟨B, base + (o + i * re.size), none⟩), ?_, .ptr _ _ _ _ hb⟩
      simp [Instr.indexAt, run_under hr, hty, asIntOf, run_size hre, hlt, addr_add, Nat.add_assoc]
    | slice0 => exact absurd hlt (Nat.not_lt_zero _)
  · cases h

theorem index_sound (c : Ctx P eqs ρ α a) {t : TypeId} {x y : Operand} {v : Value} (h : pIndex t x y (Env.of P eqs clone) α = some v) :
    Y P (Instr.index t (a.eval x) (a.eval y)) ρ v w := by
  unfold pIndex at h
  rw [ob_some] at h
  obtain ⟨u, hu, h⟩ := h
  rw [ob_some] at h
  obtain ⟨s, hs, h⟩ := h
  rw [ob_some] at h
  obtain ⟨r, hr, h⟩ := h
  have hu' := c.opv hu
  have hs' := c.opv hs
  generalize a.eval x = ex at *
  generalize a.eval y = ey at *
  split at h
  · rename_i n e cs hty
    rw [ob_some] at h
    obtain ⟨re, hre, h⟩ := h
    rw [ob_some] at h
    obtain ⟨i, hi, h⟩ := h
    obtain ⟨kd, rfl, hlt⟩ := idx_sound hs' hi
    cases hu' with
    | agg _ ys hxs =>
      obtain ⟨v', h1, h2⟩ := part_sound (w := w) (cs' := ⟨ys⟩) hxs h
      exact ⟨v', by simp [Instr.index, run_under hr, hty, asIntOf, run_size hre, hlt, h1], h2⟩
  · rename_i str hty
    rw [ob_some] at h
    obtain ⟨i, hi, h⟩ := h
    rw [om_some] at h
    obtain ⟨b, hb, rfl⟩ := h
    obtain ⟨kd, rfl, hlt⟩ := idx_sound hs' hi
    cases hu'
    refine ⟨_, ?_, .int _ _⟩
    have hsz : i < str.size := by rw [size_strL]; exact hlt
    have hb' : str[i]? = some b := by
      have h1 : (strL str)[i] = b := by
        rw [List.getElem?_eq_getElem hlt] at hb; injection hb
      rw [getElem?_pos str i hsz]
      rw [← h1]; rfl
    simp [Instr.index, run_under hr, hty, asIntOf, hb']
  · cases h

theorem assert_sound (c : Ctx P eqs ρ α a) {x : Operand} {s t : TypeId} {ok : Bool} {v : Value} (h : pAssert x s t ok (Env.of P eqs clone) α = some v) :
    Y P (Instr.typeAssert (a.eval x) s t ok) ρ v w := by
  unfold pAssert at h
  rw [ob_some] at h
  obtain ⟨u, hu, h⟩ := h
  rw [ob_some] at h
  obtain ⟨r, hr, h⟩ := h
  have hu' := c.opv hu
  generalize a.eval x = ex at *
  split at h
  · cases h
  · rename_i ty val hni
    rw [bi_eq] at h
    split at h
    · rename_i h1
      have h1 := Nat.eq_of_beq_eq_true h1
      subst h1
      injection h with h2; subst h2
      cases hu' with
      | iface _ _ x' hx =>
        refine ⟨if ok then .tuple #[x', .bool true] else x', ?_, ?_⟩
        · simp only [Instr.typeAssert, Sem.run_bind, run_under hr, Result.andThen_ok]
          generalize r.u = ru at *
          cases ru <;> first | exact absurd rfl (hni _) | simp
        · cases ok
          · exact hx
          · exact .tuple _ _ (.cons _ _ _ _ hx (.cons _ _ _ _ (.bool _) .nil))
    · rename_i h1
      have h1 : ¬ ty = t := fun e => h1 (by rw [e]; exact Nat.beq_refl t)
      rw [bi_some_none, ob_some] at h
      obtain ⟨hok, z, hz, h⟩ := h
      subst hok
      rw [bi_some_none] at h
      obtain ⟨hf, h⟩ := h
      injection h with h; subst h
      cases hu' with
      | iface _ _ x' hx =>
        refine ⟨.tuple #[z, .bool false], ?_, .tuple _ _ (.cons _ _ _ _ (flat_VR hf) (.cons _ _ _ _ (.bool _) .nil))⟩
        have hzr := run_zero (w := w) hr hz
        simp only [Instr.typeAssert, Sem.run_bind, run_under hr, Result.andThen_ok]
        generalize r.u = ru at *
        cases ru <;> first | exact absurd rfl (hni _) | simp [h1, hzr]
  · rename_i hni
    rw [bi_some_none, ob_some] at h
    obtain ⟨hok, z, hz, h⟩ := h
    subst hok
    rw [bi_some_none] at h
    obtain ⟨hf, h⟩ := h
    injection h with h; subst h
    cases hu'
    refine ⟨.tuple #[z, .bool false], ?_, .tuple _ _ (.cons _ _ _ _ (flat_VR hf) (.cons _ _ _ _ (.bool _) .nil))⟩
    have hzr := run_zero (w := w) hr hz
    simp only [Instr.typeAssert, Sem.run_bind, run_under hr, Result.andThen_ok]
    generalize r.u = ru at *
    cases ru <;> first | exact absurd rfl (hni _) | simp [hzr]
  · cases h

theorem extract_sound (c : Ctx P eqs ρ α a) {x : Operand} {i : Nat} {v : Value} (h : pExtract x i (Env.of P eqs clone) α = some v) :
    Y P (Instr.extract (a.eval x) i) ρ v w := by
  unfold pExtract at h
  rw [ob_some] at h
  obtain ⟨u, hu, h⟩ := h
  have hu' := c.opv hu
  generalize a.eval x = ex at *
  split at h
  · cases hu' with
    | tuple _ ys hxs =>
      obtain ⟨v', h1, h2⟩ := hxs.get h
      exact ⟨v', by simp [Instr.extract, h1], h2⟩
  · cases h
end
end Go.Ev
