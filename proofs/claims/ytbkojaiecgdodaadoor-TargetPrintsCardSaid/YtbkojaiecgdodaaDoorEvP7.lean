/- A part of an evaluator of runs, and that it is right. -/
import Derived.Test.YtbkojaiecgdodaaDoorEvP6
set_option linter.unusedVariables false
set_option linter.unusedSimpArgs false
set_option linter.unusedSectionVars false
namespace Go.Ev
variable [Den]
section
variable {P : Program} {eqs : List Nat} {clone : Sp} {ρ : Rho} {α : A} {a : Act} {w : World}

theorem pcall_sound (c : Ctx P eqs ρ α a) {k : Call} {v : Value} (h : pCall k (Env.of P eqs clone) α = some v) (o : Oper) (ho : o.op = .call k) :
    ∃ v', (execOp a.eval o).run P w = .ok (.value v') w ∧ VR ρ v v' := by
  unfold pCall at h
  rw [ob_some] at h
  obtain ⟨args, hargs0, h⟩ := h
  have hargs := c.opvs hargs0
  clear hargs0
  obtain ⟨cal, kargs, kts⟩ := k
  simp only at h hargs
  have hrun : ∀ b, cal = .builtin b → (execOp a.eval o).run P w = (builtin b kts o.type (kargs.map fun | .const _ => true | _ => false) (kargs.map a.eval)).run P w := by
    intro b hb
    simp only [execOp, ho, resolve, hb, Sem.run_bind, Sem.run_pure, Result.andThen_ok, invoke]
    rfl
  have hl : (kargs.map a.eval) = ⟨kargs.toList.map a.eval⟩ := by apply Array.ext'; simp
  generalize kargs.toList.map a.eval = vs at *
  split at h
  · rw [ob_some] at h
    obtain ⟨t, ht, h⟩ := h
    rw [ob_some] at h
    obtain ⟨r, hr, h⟩ := h
    have ht : kts[0]? = some t := by simpa using ht
    rw [hrun _ rfl, hl]
    split at h
    · rename_i s hty
      injection h with h; subst h
      cases hargs with
      | cons _ _ _ _ h1 h2 => cases h2; cases h1; exact ⟨_, by simp [builtin, Builtin.len_, ht, run_under hr, hty, goInt, size_strL], .int _ _⟩
    · rename_i e ad n cap hty
      injection h with h; subst h
      cases hargs with
      | cons _ _ _ _ h1 h2 => cases h2; cases h1 <;> exact ⟨_, by simp [builtin, Builtin.len_, ht, run_under hr, hty, goInt], .int _ _⟩
    · rename_i e cc hty
      cases hargs with
      | cons _ _ _ _ h4 h5 =>
        cases h5
        obtain ⟨f, hm, h1, h2, h3, rfl⟩ := lookF_mem h
        have hf := Den.ok f hm
        cases hf with
        | bin op' => have := bcode_lt op'; simp only at h1; omega
        | cat => simp only at h1; omega
        | neg => simp only at h1; omega
        | com => simp only at h1; omega
        | conv k => have := kcode_le k; simp only at h1; omega
        | cut => simp only at h1; omega
        | cutn => simp only at h1; omega
        | pt => simp only at h1; omega
        | len a2 v2 p n c2 ha hv hi =>
          have e1 := (syEq_dv h2 h4).symm.trans ha
          subst e1
          exact ⟨_, by rw [hi]; simp [builtin, Builtin.len_, ht, run_under hr, hty, goInt], okv_VR hv⟩
    · rename_i n e y hty
      injection h with h; subst h
      cases hargs with
      | cons _ _ _ _ h1 h2 => cases h2; exact ⟨_, by simp [builtin, Builtin.len_, ht, run_under hr, hty, goInt], .int _ _⟩
    · cases h
  · split at h
    · rename_i k x k' y
      rw [bi_some_none] at h
      obtain ⟨h1, h2⟩ := h
      rw [kEq_iff] at h1; subst h1
      injection h2 with h2; subst h2
      rw [hrun _ rfl, hl]
      cases hargs with
      | cons _ _ _ _ h1 h2 => cases h2 with
        | cons _ _ _ _ h2 h3 =>
          cases h3; cases h1; cases h2
          refine ⟨_, ?_, .int _ _⟩
          simp [builtin, Builtin.max_, Builtin.max2]
          rw [bi_eq, ile_eq]
          by_cases hxy : y ≤ x
          · have : ¬ x < y := by omega
            simp [hxy, this]
          · have : x < y := by omega
            simp [hxy, this]
    · rename_i a b hno
      rw [ob_some] at h
      obtain ⟨r, hr, h⟩ := h
      rw [hrun _ rfl, hl]
      cases hargs with
      | cons _ wa _ _ h1 h2 => cases h2 with
        | cons _ wb _ _ h2 h3 =>
          cases h3
          obtain ⟨f, hm, e1, e2, e3, rfl⟩ := lookF_mem hr
          have hf := Den.ok f hm
          cases hf with
          | cat => simp only at e1; omega
          | neg => simp only at e1; omega
          | com => simp only at e1; omega
          | conv k => have := kcode_ge k; simp only at e1; omega
          | len => simp only at e1; omega
          | cut => simp only at e1; omega
          | cutn => simp only at e1; omega
          | pt => simp only at e1; omega
          | bin op' a2 b2 v2 k k' x y ha hb hk hv hi =>
            have : op' = .leq := by cases op' <;> first | rfl | (cases e1; done)
            subst this
            have e4 := (syEq_dv e2 h2).symm.trans ha
            have e5 := (syEq_dv e3 h1).symm.trans hb
            have ek : k = k' := by rcases hk with h | h; (cases h); exact h
            subst e4; subst e5; subst ek
            simp only at h
            split at h
            · injection h with h; subst h
              refine ⟨_, ?_, h1⟩
              have hi : some (Value.bool (ile x y)) = some (.bool true) := hi
              injection hi with hi; injection hi with hi
              rw [ile_eq] at hi
              have hi := of_decide_eq_true hi
              have : ¬ y < x := by omega
              simp [builtin, Builtin.max_, Builtin.max2, this]
            · injection h with h; subst h
              refine ⟨_, ?_, h2⟩
              have hi : some (Value.bool (ile x y)) = some (.bool false) := hi
              injection hi with hi; injection hi with hi
              rw [ile_eq] at hi
              have hi := of_decide_eq_false hi
              have : y < x := by omega
              simp [builtin, Builtin.max_, Builtin.max2, this]
            · cases h
    · cases h
  · split at h
    · rename_i k x k' y
      rw [bi_some_none] at h
      obtain ⟨h1, h2⟩ := h
      rw [kEq_iff] at h1; subst h1
      injection h2 with h2; subst h2
      rw [hrun _ rfl, hl]
      cases hargs with
      | cons _ _ _ _ h1 h2 => cases h2 with
        | cons _ _ _ _ h2 h3 =>
          cases h3; cases h1; cases h2
          refine ⟨_, ?_, .int _ _⟩
          simp [builtin, Builtin.min_, Builtin.min2]
          rw [bi_eq, ile_eq]
          by_cases hxy : x ≤ y
          · have : ¬ y < x := by omega
            simp [hxy, this]
          · have : y < x := by omega
            simp [hxy, this]
    · cases h
  · rw [ob_some] at h
    obtain ⟨t, ht, h⟩ := h
    rw [ob_some] at h
    obtain ⟨r, hr, h⟩ := h
    have ht : kts[0]? = some t := by simpa using ht
    rw [hrun _ rfl, hl]
    split at h
    · rename_i e ad n m hty
      rw [bi_none_some] at h
      obtain ⟨hm, h⟩ := h
      have hm : m < capU := by rw [← Bool.not_eq_true, Nat.ble_eq] at hm; omega
      injection h with h; subst h
      cases hargs with
      | cons _ _ _ _ h1 h2 =>
        cases h2
        cases h1 with
        | nils c hc =>
          have : m = 0 := by omega
          subst this
          exact ⟨_, by simp [builtin, Builtin.cap_, ht, run_under hr, hty, goInt], .int _ _⟩
        | slice b o n c B base c' hb hc hle =>
          have : c' = m := by
            rcases hc with ⟨sz, h1, _⟩ | ⟨h1, _⟩
            · omega
            · exact h1
          subst this
          exact ⟨_, by simp [builtin, Builtin.cap_, ht, run_under hr, hty, goInt], .int _ _⟩
        | slice0 b o a' c hc =>
          have : m = 0 := by omega
          subst this
          exact ⟨_, by simp [builtin, Builtin.cap_, ht, run_under hr, hty, goInt], .int _ _⟩
    · cases h
  · cases h

theorem lookO_mem {k : Nat} {args : List Value} {v : Value} : ∀ {l : List OF}, lookO l k args = some v → ∃ c ∈ l, c.key = k ∧ caEqL c.args args = true ∧ c.v = v := by
  intro l
  induction l with
  | nil => intro h; cases h
  | cons c l ih =>
    intro h
    have tl : lookO l k args = some v → ∃ d ∈ c :: l, d.key = k ∧ caEqL d.args args = true ∧ d.v = v := fun h => let ⟨d, h1, h2⟩ := ih h; ⟨d, List.mem_cons_of_mem _ h1, h2⟩
    have h : bi (Nat.beq c.key k) (bi (caEqL c.args args) (some c.v) (lookO l k args)) (lookO l k args) = some v := h
    cases h1 : Nat.beq c.key k
    · rw [h1] at h; exact tl h
    cases h2 : caEqL c.args args
    · rw [h1, h2] at h; exact tl h
    rw [h1, h2] at h
    injection h with h
    exact ⟨c, List.mem_cons_self .., Nat.eq_of_beq_eq_true h1, h2, h⟩
theorem knownO_spec {l : List OF} {op : Op} {E : Env} {v : Value} (h : knownO l op E α = some v) : ∃ c ∈ l, okey op = some c.key ∧ (∃ args, opvs E α op.operands.toList = some args ∧ caEqL c.args args = true) ∧ c.v = v := by
  unfold knownO at h
  cases l with
  | nil => cases h
  | cons d l =>
    have h : ob (okey op) (fun k => ob (opvs E α op.operands.toList) fun args => lookO (d :: l) k args) = some v := h
    rw [ob_some] at h
    obtain ⟨k, hk, h⟩ := h
    rw [ob_some] at h
    obtain ⟨args, ha, h⟩ := h
    obtain ⟨c, hc, h1, h2, h3⟩ := lookO_mem h
    exact ⟨c, hc, by rw [hk, h1], ⟨args, ha, h2⟩, h3⟩
theorem pure_sound (c : Ctx P eqs ρ α a) {o : Oper} {v : Value} (h : pureE o.op (Env.of P eqs clone) α = some v) :
    ∃ v', (execOp a.eval o).run P w = .ok (.value v') w ∧ VR ρ v v' := by
  have lift : ∀ {s : Sem Value}, execOp a.eval o = (do pure (.value (← s))) → Y P s ρ v w → ∃ v', (execOp a.eval o).run P w = .ok (.value v') w ∧ VR ρ v v' := by
    intro s he ⟨v', h1, h2⟩
    exact ⟨v', by rw [he]; simp [h1], h2⟩
  unfold pureE at h
  cases hk : knownO (Env.of P eqs clone).pures o.op (Env.of P eqs clone) α with
  | some u =>
    rw [hk] at h
    injection h with h; subst h
    obtain ⟨d, hd, h1, ⟨args, ha, h2⟩, rfl⟩ := knownO_spec hk
    have ok := c.pures d hd
    exact ⟨_, ok.run o a.eval w h1 (caEqL_dvs h2 (c.opvs ha)).symm, okV_VR ok.val⟩
  | none =>
  rw [hk] at h
  replace h : pureE0 o.op (Env.of P eqs clone) α = some v := h
  clear hk
  obtain ⟨dst, op, type, pos, after, guard⟩ := o
  cases op <;> simp only [pureE0] at h <;> first | (cases h; done) | skip
  case move x => exact ⟨_, rfl, c.opv h⟩
  case assign x => exact ⟨_, rfl, c.opv h⟩
  case pick x y z =>
    obtain ⟨v', h1, h2⟩ := pick_sound (w := w) c h
    refine ⟨v', ?_, h2⟩
    simp only [Sem.run_bind, Sem.run_pure] at h1
    simp only [execOp, Sem.run_bind, Sem.run_pure]
    generalize (asBool (a.eval x)).run P w = r at h1 ⊢
    cases r with
    | ok b w' => simp only [Result.andThen_ok] at h1 ⊢; injection h1 with h1 h3; rw [h1, h3]
    | halt x w' => cases h1
  case build t ps => exact lift rfl (build_sound c h)
  case nilCheck x => exact nil_sound c h _ rfl
  case binOp op t x y u => exact lift rfl (bin_sound c h)
  case unOp op t x => exact lift rfl (un_sound c h)
  case convert s d x => exact lift rfl (conv_sound c h)
  case makeInterface t x => exact lift rfl (iface_sound c h)
  case makeFunc fn x y => exact lift rfl (func_sound c h)
  case slice t x lo hi mx => exact lift rfl (slice_sound c h)
  case fieldAddr t x i => exact lift rfl (fieldAddr_sound c h)
  case field t x i => exact lift rfl (field_sound c h)
  case indexAddr t x i => exact lift rfl (indexAddr_sound c h)
  case index t x i => exact lift rfl (index_sound c h)
  case typeAssert x s t ok => exact lift rfl (assert_sound c h)
  case extract x i => exact lift rfl (extract_sound c h)
  case call k => exact pcall_sound c h _ rfl
end
end Go.Ev
