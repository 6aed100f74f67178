/- A part of an evaluator of runs, and that it is right. -/
import Derived.Test.YtbkojaiecgdodaaDoorEvK
set_option linter.unusedVariables false
set_option linter.unusedSimpArgs false
set_option linter.unusedSectionVars false
namespace Go.Ev
variable [Den]

noncomputable def delL : List Nat → T Value → T Value
  | [], t => t
  | k :: l, t => (delL l t).del k
theorem delL_get : ∀ {l : List Nat} {t : T Value} {j : Nat} {v : Value}, (delL l t).get j = some v → j ∉ l ∧ t.get j = some v := by
  intro l
  induction l with
  | nil => intro t j v h; exact ⟨by simp, h⟩
  | cons k l ih =>
    intro t j v h
    obtain ⟨h1, h2⟩ := T.get_del h
    obtain ⟨h3, h4⟩ := ih h2
    exact ⟨by simp [h1, h3], h4⟩
theorem delL_ne : ∀ {l : List Nat} {t : T Value} {j : Nat}, j ∉ l → (delL l t).get j = t.get j := by
  intro l
  induction l with
  | nil => intro t j h; rfl
  | cons k l ih =>
    intro t j h
    simp at h
    show ((delL l t).put none k).get j = _
    rw [T.put_ne _ _ _ _ h.1, ih h.2]

open Classical in
noncomputable def bads (ops : List Oper) (D : Nat → Prop) (i : Nat) : List Nat :=
  (List.range ops.length).filterMap fun k => if (k < i ↔ D k) then none else (ops[k]?).bind (·.dst)
theorem mem_bads {ops : List Oper} {D : Nat → Prop} {i t : Nat} : t ∈ bads ops D i ↔ ∃ k, ¬ (k < i ↔ D k) ∧ ∃ o, ops[k]? = some o ∧ o.dst = some t := by
  classical
  unfold bads
  simp only [List.mem_filterMap, List.mem_range]
  constructor
  · rintro ⟨k, hk, h⟩
    split at h
    · cases h
    · rename_i hn
      cases ho : ops[k]? with
      | none => rw [ho] at h; cases h
      | some o => rw [ho] at h; exact ⟨k, hn, o, ho, h⟩
  · rintro ⟨k, hn, o, ho, hd⟩
    refine ⟨k, (List.getElem?_eq_some_iff.1 ho).1, ?_⟩
    rw [if_neg hn, ho]
    exact hd

section
variable {P : Program} {eqs : List Nat} {clone : Sp} {n0 ng N : Nat} {ρ ρ' : Rho} {h : H} {α : A} {a : Act} {w w' : World}

/-- a name more, for a block that no row stands for -/
theorem Sim.widen (s : Sim ng n0 ρ h w) {id B lim : Nat} (hid : ρ id = none) (hlt : id < h.next) (hB : B < w.heap.size) (hni : ¬ Img ρ h B) (hno : ∀ i base, ρ i ≠ some (B, base)) :
    Sim ng n0 (upd ρ id B 0 lim) h w ∧ Le ρ (upd ρ id B 0 lim) ∧ ∀ B', Img (upd ρ id B 0 lim) h B' → Img ρ h B' := by
  have L := upd_le hid B 0 lim (fun i base' hi => (hno i base' hi).elim)
  have hne : ∀ {b x}, h.bl.get b = some x → b ≠ id := fun hb => by obtain ⟨p, hp⟩ := s.live hb; exact s.born_ne hid hp
  have old : ∀ {b x B' base'}, h.bl.get b = some x → upd ρ id B 0 lim b = some (B', base') → ρ b = some (B', base') := fun hb hu => by rwa [upd_ne (hne hb)] at hu
  refine ⟨⟨?_, ?_, ?_, fun g hg => L.get _ _ (s.glob g hg), s.lowOk, ?_, ?_, ?_, ?_, ?_, ?_, s.mem, ?_, ?_⟩, L, ?_⟩
  · intro i p hi
    by_cases e : i = id
    · subst e; exact hlt
    · rw [upd_ne e] at hi; exact s.born i p hi
  · intro i B' base' hi
    by_cases e : i = id
    · rw [e, upd_same] at hi; injection hi with hi; injection hi with e1 e2; subst e1; exact hB
    · rw [upd_ne e] at hi; exact s.inh i B' base' hi
  · intro b t c B' base' hb hr k hk
    have hr := old hb hr
    rw [upd_lim_ne (fun e => hno b base' (by rw [← e]; exact hr))] at hk
    exact s.rows b t c B' base' hb hr k hk
  · intro b t c hb
    obtain ⟨B', base', h1, h2, h3, h4⟩ := s.cells b t c hb
    exact ⟨B', base', L.get _ _ h1, h2, h3, fun o v hv' => let ⟨v', h5, h6, h7⟩ := h4 o v hv'; ⟨v', h5, h6, h7.mono L⟩⟩
  · intro b t hb
    obtain ⟨B', h1, h2, h4⟩ := s.ro b t hb
    exact ⟨B', L.get _ _ h1, h2, fun o v hv' => let ⟨v', h5, h7⟩ := h4 o v hv'; ⟨v', h5, h7.mono L⟩⟩
  · intro b es k hb
    obtain ⟨B', es', h1, h2, h3, h4⟩ := s.maps b es k hb
    exact ⟨B', es', L.get _ _ h1, h2, h3, h4.mono L⟩
  · intro b m sn seen st hb
    obtain ⟨B', h1, h2, h3⟩ := s.iters b m sn seen st hb
    refine ⟨B', L.get _ _ h1, h2, ?_⟩
    rcases h3 with h3 | ⟨k, M, h3, h4, h5⟩
    · exact Or.inl h3
    · exact Or.inr ⟨k, M, h3, L.get _ _ h4, h5⟩
  · intro b x hb hx
    obtain ⟨B', o, h1, h2, h3, h4⟩ := s.objs b x hb hx
    exact ⟨B', o, L.get _ _ h1, h2, h3, h4.mono L⟩
  · intro b t c b' t' c' B' base base' hb hb' hr hr'
    exact s.cls b t c b' t' c' B' base base' hb hb' (old hb hr) (old hb' hr')
  · intro b t c hb
    obtain ⟨p, hp⟩ := s.clsb b t c hb
    exact ⟨p, L.get _ _ hp⟩
  · intro b x b' x' B' base base' hb hb' ho ho' hr hr'
    exact s.inj b x b' x' B' base base' hb hb' ho ho' (old hb hr) (old hb' hr')
  · rintro B' ⟨b, base, x, hb, hx, hr⟩
    exact ⟨b, base, x, hb, hx, old hb hr⟩

structure Inv (P : Program) (n0 N base : Nat) (ops : List Oper) (gs : Nat → G) (ρ0 : Rho) (h0 : H) (w0 : World) (D : Nat → Prop) (j : Nat) (ρ : Rho) (a : Act) (w : World) : Prop where
  lt : ∀ k, D k → k < ops.length
  down : ∀ k o, D k → ops[k]? = some o → ∀ e ∈ o.after.toList, binding e = true → D e.on
  jn : j ≤ ops.length
  loud : ∀ k, k < ops.length → Ld gs k → (D k ↔ k < j)
  lastj : j = 0 ∨ ∃ l, j = l + 1 ∧ Ld gs l ∧ D l
  sim : Sim P.globals.size n0 ρ (gs j).h w
  step : Step ρ0 h0 w0 ρ (gs j).h w
  nxt : base + ops.length ≤ (gs j).h.next
  rows : ∀ q, Fresh gs base q → D q.i → (q ∈ (gs j).pend ∨ j ≤ q.i) → RowOk n0 ρ (gs j).h w q ∧ ∀ B, ρ q.id = some (B, 0) → w0.heap.size ≤ B
  dist : ∀ q q', Fresh gs base q → Fresh gs base q' → D q.i → D q'.i → q.i ≠ q'.i → ∀ B, ρ q.id = some (B, 0) → ρ q'.id ≠ some (B, 0)
  none : ∀ p, p < ops.length → ¬ D p → ρ (base + p) = .none
  size : a.tmps.size = N
  slot1 : ∀ k o t v, D k → ops[k]? = some o → o.dst = some t → (gs (k + 1)).α.t.get t = some v → ∃ v', a.tmps[t]? = some v' ∧ VR ρ v v'
  slot0 : ∀ t v, (∀ k o, D k → ops[k]? = some o → o.dst ≠ some t) → (gs 0).α.t.get t = some v → ∃ v', a.tmps[t]? = some v' ∧ VR ρ v v'
  defs : DR ρ (gs j).α.d a.defers

variable {E : Env} {cl : CallT} {ops : List Oper} {base j : Nat} {gs : Nat → G} {ρ0 : Rho} {h0 : H} {w0 : World} {D : Nat → Prop}

/-- the slots as the operation finds them -/
noncomputable def seen (ops : List Oper) (gs : Nat → G) (D : Nat → Prop) (i : Nat) : A := ⟨delL (bads ops D i) (gs i).α.t, (gs i).α.d⟩

theorem Inv.slots (T : Trace E cl ops base N gs) (I : Inv P n0 N base ops gs ρ0 h0 w0 D j ρ a w) {i : Nat} (hi : i < ops.length) (hD : ¬ D i) :
    ∀ t v, (seen ops gs D i).t.get t = some v → ∃ v', a.tmps[t]? = some v' ∧ VR ρ v v' := by
  intro t v ht
  obtain ⟨hb, ht⟩ := delL_get ht
  have hb : ∀ k o, ops[k]? = some o → o.dst = some t → (k < i ↔ D k) := by
    intro k o ho hd
    by_cases c : (k < i ↔ D k)
    · exact c
    · exact absurd (mem_bads.2 ⟨k, c, o, ho, hd⟩) hb
  rcases T.lex i (Nat.le_of_lt hi) t v ht with ⟨k, h1, o, ho, hd, hv⟩ | ⟨h1, h2⟩
  · exact I.slot1 k o t v ((hb k o ho hd).1 h1) ho hd hv
  · refine I.slot0 t v (fun k o hk ho hd => ?_) h2
    exact h1 k ((hb k o ho hd).2 hk) o ho hd

theorem Inv.clear (I : Inv P n0 N base ops gs ρ0 h0 w0 D j ρ a w) {i : Nat} {o : Oper} (hO : OpOk ops i o) (hOs : ∀ k p, ops[k]? = some p → OpOk ops k p) (hD : ¬ D i) (he : ∀ e ∈ o.after.toList, binding e = true → D e.on) {t : Nat} (ht : Operand.tmp t ∈ o.op.operands.toList) : t ∉ bads ops D i := by
  intro hb
  obtain ⟨k, hn, p, hp, hd⟩ := mem_bads.1 hb
  rcases hO.clr t ht k p hp hd with ⟨e, h1, h2, h3⟩ | ⟨e, h1, h2, h3⟩
  · have := he e h1 h2
    have := hO.edges e h1 h2
    exact hn (by subst h3; constructor <;> intro _ <;> assumption)
  · have := (hOs k p hp).edges e h1 h2
    have hnk : ¬ D k := fun hk => hD (h3 ▸ I.down k p hk hp e h1 h2)
    exact hn ⟨fun h => by omega, fun h => absurd h hnk⟩

theorem Inv.alike (I : Inv P n0 N base ops gs ρ0 h0 w0 D j ρ a w) {i : Nat} {o : Oper} (hO : OpOk ops i o) (hOs : ∀ k p, ops[k]? = some p → OpOk ops k p) (hD : ¬ D i) (he : ∀ e ∈ o.after.toList, binding e = true → D e.on) :
    Alike E (gs i).α (seen ops gs D i) o.op := by
  intro x hx
  cases x with
  | tmp t =>
    have := I.clear hO hOs hD he (t := t) (by simpa using hx)
    exact (delL_ne this).symm
  | const c => rfl
  | global g => rfl
  | func f => rfl

theorem Inv.wanted (I : Inv P n0 N base ops gs ρ0 h0 w0 D j ρ a w) {i : Nat} {o : Oper} (hO : OpOk ops i o) (hOs : ∀ k p, ops[k]? = some p → OpOk ops k p) (hD : ¬ D i) (he : ∀ e ∈ o.after.toList, binding e = true → D e.on) :
    wantedE ops (seen ops gs D i) o = wantedE ops (gs i).α o := by
  unfold wantedE
  cases hg : o.guard with
  | none => rfl
  | some g =>
    obtain ⟨p, t, hp, ht, e, h1, h2, h3⟩ := hO.grd g hg
    have hnb : t ∉ bads ops D i := by
      intro hb
      obtain ⟨k, hn, p', hp', hd'⟩ := mem_bads.1 hb
      have hk : g.1 = k := (hOs k p' hp').one t hd' g.1 p hp ht
      subst hk
      have := he e h1 h2
      have := hO.edges e h1 h2
      exact hn (by rw [← h3]; constructor <;> intro _ <;> assumption)
    have hget : (seen ops gs D i).t.get t = (gs i).α.t.get t := delL_ne hnb
    show ob ops[g.1]? _ = ob ops[g.1]? _
    rw [hp]
    show ob p.dst _ = ob p.dst _
    rw [ht]
    show ob ((seen ops gs D i).t.get t) _ = ob ((gs i).α.t.get t) _
    rw [hget]

/-- the slots behind an operation -/
theorem Inv.put (T : Trace E cl ops base N gs) (I : Inv P n0 N base ops gs ρ0 h0 w0 D j ρ a w) {i : Nat} {o : Oper} (ho : ops[i]? = some o) (hO : OpOk ops i o) (hD : ¬ D i) (hdN : ∀ t, o.dst = some t → t < N) (L : Le ρ ρ') {a1 : Act} (ha : a1.tmps = a.tmps)
    {v v' : Value} (ht : (gs (i + 1)).α.t = (putD (gs i).α o.dst v).t) (hv : VR ρ' v v') :
    (a1.put o.dst v').tmps.size = N ∧
    (∀ k p t u, (D k ∨ k = i) → ops[k]? = some p → p.dst = some t → (gs (k + 1)).α.t.get t = some u → ∃ u', (a1.put o.dst v').tmps[t]? = some u' ∧ VR ρ' u u') ∧
    (∀ t u, (∀ k p, (D k ∨ k = i) → ops[k]? = some p → p.dst ≠ some t) → (gs 0).α.t.get t = some u → ∃ u', (a1.put o.dst v').tmps[t]? = some u' ∧ VR ρ' u u') := by
  have hput : ∀ t, o.dst ≠ some t → (a1.put o.dst v').tmps[t]? = a.tmps[t]? := by
    intro t hne
    cases hd : o.dst with
    | none => simp [Act.put, ha]
    | some d =>
      have : d ≠ t := fun e => hne (by rw [hd, e])
      simp only [Act.put, ha]
      rw [Array.getElem?_setIfInBounds_ne this]
  refine ⟨?_, ?_, ?_⟩
  · cases hd : o.dst with
    | none => simp [Act.put, ha, I.size]
    | some d => simp [Act.put, ha, I.size]
  · intro k p t u hk hp hd hu
    by_cases e : k = i
    · subst e
      rw [ho] at hp; injection hp with hp; subst hp
      rw [ht, hd] at hu
      have hu : ((gs k).α.t.set t v).get t = some u := hu
      rcases Go.Ev.T.get_set hu with ⟨_, e⟩ | ⟨e, _⟩
      · subst e
        have := hdN t hd
        exact ⟨v', by simp [Act.put, hd, ha, I.size, this], hv⟩
      · exact absurd rfl e
    · have hk : D k := hk.resolve_right e
      have hne : o.dst ≠ some t := fun h => e (hO.one t h k p hp hd)
      rw [hput t hne]
      obtain ⟨u', h1, h2⟩ := I.slot1 k p t u hk hp hd hu
      exact ⟨u', h1, h2.mono L⟩
  · intro t u hno hu
    rw [hput t (hno i o (Or.inr rfl) ho)]
    obtain ⟨u', h1, h2⟩ := I.slot0 t u (fun k p hk => hno k p (Or.inl hk)) hu
    exact ⟨u', h1, h2.mono L⟩

theorem Inv.down' (I : Inv P n0 N base ops gs ρ0 h0 w0 D j ρ a w) {i : Nat} {o : Oper} (ho : ops[i]? = some o) (he : ∀ e ∈ o.after.toList, binding e = true → D e.on) :
    ∀ k p, (D k ∨ k = i) → ops[k]? = some p → ∀ e ∈ p.after.toList, binding e = true → (D e.on ∨ e.on = i) := by
  intro k p hk hp e h1 h2
  rcases hk with hk | hk
  · exact Or.inl (I.down k p hk hp e h1 h2)
  · subst hk; rw [ho] at hp; injection hp with hp; subst hp; exact Or.inl (he e h1 h2)

/-- a quiet one that makes no row -/
theorem Inv.quiet (T : Trace E cl ops base N gs) (I : Inv P n0 N base ops gs ρ0 h0 w0 D j ρ a w) {i : Nat} {o : Oper} (ho : ops[i]? = some o) (hO : OpOk ops i o) (hD : ¬ D i) (hdN : ∀ t, o.dst = some t → t < N) (he : ∀ e ∈ o.after.toList, binding e = true → D e.on)
    {v v' : Value} (ht : (gs (i + 1)).α.t = (putD (gs i).α o.dst v).t) (hv : VR ρ v v') (hq : ¬ Ld gs i) (hp : (gs (i + 1)).pend = (gs i).pend) :
    Inv P n0 N base ops gs ρ0 h0 w0 (fun k => D k ∨ k = i) j ρ (a.put o.dst v') w := by
  have hi := (List.getElem?_eq_some_iff.1 ho).1
  obtain ⟨s1, s2, s3⟩ := I.put T ho hO hD hdN (Le.refl ρ) (a1 := a) rfl ht hv
  have notq : ∀ q, Fresh gs base q → q.i ≠ i := by
    intro q hf e
    have := hf.1; rw [e, hp] at this
    have := congrArg List.length this; simp at this
  have od : ∀ q, Fresh gs base q → (D q.i ∨ q.i = i) → D q.i := fun q hf h => h.resolve_right (notq q hf)
  refine ⟨fun k hk => ?_, I.down' ho he, I.jn, fun k hk hl => ?_, ?_, I.sim, I.step, I.nxt, fun q hf hd hw => I.rows q hf (od q hf hd) hw, fun q q' hf hf' hd hd' => I.dist q q' hf hf' (od q hf hd) (od q' hf' hd'), fun p hp hn => I.none p hp fun h => hn (Or.inl h), s1, s2, s3, ?_⟩
  · rcases hk with hk | hk
    · exact I.lt k hk
    · omega
  · have := I.loud k hk hl
    constructor
    · rintro (h | h)
      · exact this.1 h
      · subst h; exact absurd hl hq
    · exact fun h => Or.inl (this.2 h)
  · rcases I.lastj with h | ⟨l, h1, h2, h3⟩
    · exact Or.inl h
    · exact Or.inr ⟨l, h1, h2, Or.inl h3⟩
  · have : (a.put o.dst v').defers = a.defers := by cases o.dst <;> rfl
    rw [this]; exact I.defs
end
end Go.Ev
