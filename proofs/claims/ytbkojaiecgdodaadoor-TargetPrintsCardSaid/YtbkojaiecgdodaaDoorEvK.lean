/- A part of an evaluator of runs, and that it is right. -/
import Derived.Test.YtbkojaiecgdodaaDoorEvJ
set_option linter.unusedVariables false
set_option linter.unusedSimpArgs false
set_option linter.unusedSectionVars false
namespace Go.Ev
variable [Den]

theorem veqL_eq : ∀ {a b : List Value}, veqL a b = true → a = b := by
  intro a
  induction a with
  | nil => intro b h; cases b with | nil => rfl | cons _ _ => cases h
  | cons x a ih =>
    intro b h
    cases b with
    | nil => cases h
    | cons y b => simp only [veqL, bi_tf] at h; rw [veq1_eq h.1, ih h.2]
theorem veq_eq {a b : Value} (h : veq a b = true) : a = b := by
  unfold veq at h
  split at h
  · rw [veqL_eq h]
  · rw [veqL_eq h]
  · rw [bi_tf, bi_tf] at h; rw [Nat.eq_of_beq_eq_true h.1, veqL_eq h.2.1, veqL_eq h.2.2]
  · exact veq1_eq h

inductive Tr (E : Env) (cl : CallT) (ops : List Oper) (base i m : Nat) (o : Oper) (g : G) : G → Prop
  | skip (hw : wantedE ops g.α o = some false) : Tr E cl ops base i m o g ⟨putD g.α o.dst (.tuple #[]), g.h, g.pend, g.rds, g.past⟩
  | pure (hw : wantedE ops g.α o = some true) (v : Value) (hv : pureE o.op E g.α = some v) : Tr E cl ops base i m o g ⟨putD g.α o.dst v, g.h, g.pend, g.rds, g.past⟩
  | read (hw : wantedE ops g.α o = some true) (v : Value) (hv : readE o.op E g.α g.h = some v) (hp : pastOk E g.α o.op v m g.past = true) : Tr E cl ops base i m o g ⟨putD g.α o.dst v, g.h, g.pend, ⟨i, o.op, g.α, v⟩ :: g.rds, g.past⟩
  | alloc (hw : wantedE ops g.α o = some true) (row : List Value) (k : Option (Nat × Nat)) (hv : allocE o.op E g.α = some (row, k)) : Tr E cl ops base i m o g ⟨putD g.α o.dst (mkA (base + i) k), g.h, ⟨i, base + i, some row⟩ :: g.pend, g.rds, g.past⟩
  | mk (hw : wantedE ops g.α o = some true) (hk : isMk o.op = true) : Tr E cl ops base i m o g ⟨putD g.α o.dst (.map (some (base + i))), g.h, ⟨i, base + i, none⟩ :: g.pend, g.rds, g.past⟩
  | loud (hw : wantedE ops g.α o = some true) (hl : lastOk m g.past = true) (v : Value) (h' : H) (hv : loudE o.op E cl g.α (absorb m g.pend g.h).1 = some (v, h')) (hr : rdsOk E h' m g.rds = true) :
      Tr E cl ops base i m o g ⟨putD g.α o.dst v, h', (absorb m g.pend g.h).2, g.rds, (i, g.h) :: g.past⟩
  | defer (hw : wantedE ops g.α o = some true) (hl : lastOk m g.past = true) (hr : rdsOk E g.h m g.rds = true) (α2 : A) (hv : deferE o.op E g.α = some α2) : Tr E cl ops base i m o g ⟨putD α2 o.dst (.tuple #[]), g.h, g.pend, g.rds, (i, g.h) :: g.past⟩

section
variable {E : Env} {cl : CallT} {ops : List Oper} {base N n : Nat}

theorem drawK_tr {i m : Nat} {o : Oper} {g g' : G} {k : Nat} (hw : wantedE ops g.α o = some true) (h : drawK E cl base i m o g k = some g') : Tr E cl ops base i m o g g' := by
  rcases k with _ | _ | _ | _ | _ | k
  · have h : om (pureE o.op E g.α) (fun v => (⟨putD g.α o.dst v, g.h, g.pend, g.rds, g.past⟩ : G)) = some g' := h
    rw [om_some] at h
    obtain ⟨v, hv, rfl⟩ := h
    exact .pure hw v hv
  · have h : ob (readE o.op E g.α g.h) (fun v => bi (pastOk E g.α o.op v m g.past) (some (⟨putD g.α o.dst v, g.h, g.pend, ⟨i, o.op, g.α, v⟩ :: g.rds, g.past⟩ : G)) none) = some g' := h
    rw [ob_some] at h
    obtain ⟨v, hv, h⟩ := h
    rw [bi_some_none] at h
    obtain ⟨hp, h⟩ := h
    injection h with h; subst h
    exact .read hw v hv hp
  · have h : om (allocE o.op E g.α) (fun p => (⟨putD g.α o.dst (mkA (base + i) p.2), g.h, ⟨i, base + i, some p.1⟩ :: g.pend, g.rds, g.past⟩ : G)) = some g' := h
    rw [om_some] at h
    obtain ⟨⟨row, k⟩, hv, rfl⟩ := h
    exact .alloc hw row k hv
  · have h : bi (lastOk m g.past) (ob (loudE o.op E cl g.α (absorb m g.pend g.h).1) fun p => bi (rdsOk E p.2 m g.rds) (some (⟨putD g.α o.dst p.1, p.2, (absorb m g.pend g.h).2, g.rds, (i, g.h) :: g.past⟩ : G)) none) none = some g' := h
    rw [bi_some_none, ob_some] at h
    obtain ⟨hl, ⟨v, h'⟩, hv, h⟩ := h
    rw [bi_some_none] at h
    obtain ⟨hr, h⟩ := h
    injection h with h; subst h
    exact .loud hw hl v h' hv hr
  · have h : bi (lastOk m g.past) (bi (rdsOk E g.h m g.rds) (om (deferE o.op E g.α) fun α => (⟨putD α o.dst (.tuple #[]), g.h, g.pend, g.rds, (i, g.h) :: g.past⟩ : G)) none) none = some g' := h
    rw [bi_some_none, bi_some_none, om_some] at h
    obtain ⟨hl, hr, α2, hv, rfl⟩ := h
    exact .defer hw hl hr α2 hv
  · have h : bi (isMk o.op) (some (⟨putD g.α o.dst (.map (some (base + i))), g.h, ⟨i, base + i, none⟩ :: g.pend, g.rds, g.past⟩ : G)) none = some g' := h
    rw [bi_some_none] at h
    obtain ⟨hk, h⟩ := h
    injection h with h; subst h
    exact .mk hw hk

theorem drawE_cons (o : Oper) (l : List Oper) (i m : Nat) (ms : List Nat) (g : G) : drawE E cl N ops base (o :: l) i (m :: ms) g =
    bi (Option.casesOn (motive := fun _ => Bool) o.dst true fun d => Nat.blt d N)
      (ob (wantedE ops g.α o) fun w => ob (bi w (drawK E cl base i m o g (kindOf E o.op)) (some ⟨putD g.α o.dst (.tuple #[]), g.h, g.pend, g.rds, g.past⟩)) fun g => drawE E cl N ops base l (Nat.succ i) ms g) none := rfl

theorem draw_trace : ∀ (l : List Oper) (i : Nat) (ms : List Nat) (g g' : G), drawE E cl N ops base l i ms g = some g' →
    ∃ gs : Nat → G, gs i = g ∧ gs (i + l.length) = g' ∧ ∀ (j : Nat) (o : Oper), l[j]? = some o → ∃ m, ms[j]? = some m ∧ (∀ t, o.dst = some t → t < N) ∧ Tr E cl ops base (i + j) m o (gs (i + j)) (gs (i + j + 1)) := by
  intro l
  induction l with
  | nil => intro i ms g g' h; injection h with h; subst h; exact ⟨fun _ => g, rfl, rfl, fun j o h => by simp at h⟩
  | cons o l ih =>
    intro i ms g g' h
    cases ms with
    | nil => cases h
    | cons m ms =>
      rw [drawE_cons, bi_some_none, ob_some] at h
      obtain ⟨hd, b, hb, h⟩ := h
      rw [ob_some] at h
      obtain ⟨g1, hg1, h⟩ := h
      obtain ⟨gs, e1, e2, hall⟩ := ih (i + 1) ms g1 g' h
      have hd := dst_ok hd
      have htr : Tr E cl ops base i m o g g1 := by
        cases b
        · rw [bi_false] at hg1; injection hg1 with hg1; subst hg1; exact .skip hb
        · rw [bi_true] at hg1; exact drawK_tr hb hg1
      refine ⟨fun j => if j = i then g else gs j, by simp, ?_, ?_⟩
      · have : ¬ (i + (o :: l).length = i) := by simp
        simp only [if_neg this]
        rw [← e2]; congr 1; simp; omega
      · intro j o' hj
        cases j with
        | zero =>
          simp at hj; subst hj
          refine ⟨m, rfl, hd, ?_⟩
          have : ¬ (i + 0 + 1 = i) := by omega
          simp only [Nat.add_zero, if_true, if_neg (show ¬ (i + 1 = i) by omega), e1]
          exact htr
        | succ j =>
          simp at hj
          obtain ⟨m', k1, k2, k3⟩ := hall j o' hj
          refine ⟨m', by simpa using k1, k2, ?_⟩
          simp only [if_neg (show ¬ (i + (j + 1) = i) by omega), if_neg (show ¬ (i + (j + 1) + 1 = i) by omega)]
          rwa [show i + (j + 1) = i + 1 + j by omega]

theorem putD_d (α : A) (d : Option Tmp) (v : Value) : (putD α d v).d = α.d := by cases d <;> rfl
theorem defer_t {op : Op} {α α2 : A} (h : deferE op E α = some α2) : ∃ p, α2 = ⟨α.t, p :: α.d⟩ := by
  unfold deferE at h
  split at h
  · split at h
    · rw [ob_some] at h
      obtain ⟨_, _, h⟩ := h
      rw [ob_some] at h
      obtain ⟨_, _, h⟩ := h
      split at h
      · injection h with h; exact ⟨_, h.symm⟩
      · cases h
    · cases h
  · cases h

structure Trace (E : Env) (cl : CallT) (ops : List Oper) (base N : Nat) (gs : Nat → G) : Prop where
  ok : regionOk ops = true
  step : ∀ (i : Nat) (o : Oper), ops[i]? = some o → ∃ m, (closures ops [])[i]? = some m ∧ (∀ t, o.dst = some t → t < N) ∧ Tr E cl ops base i m o (gs i) (gs (i + 1))
  pend0 : (gs 0).pend = []
  past0 : (gs 0).past = []

/-- number i has been loud -/
def Ld (gs : Nat → G) (i : Nat) : Prop := (gs (i + 1)).past = (i, (gs i).h) :: (gs i).past
variable {gs : Nat → G}
theorem Trace.at (T : Trace E cl ops base N gs) {i : Nat} (hi : i < ops.length) : ∃ m o, ops[i]? = some o ∧ (closures ops [])[i]? = some m ∧ (∀ t, o.dst = some t → t < N) ∧ Tr E cl ops base i m o (gs i) (gs (i + 1)) := by
  obtain ⟨m, h1, h2, h3⟩ := T.step i ops[i] (List.getElem?_eq_getElem hi)
  exact ⟨m, _, List.getElem?_eq_getElem hi, h1, h2, h3⟩

theorem notLd {i : Nat} (h : (gs (i + 1)).past = (gs i).past) : ¬ Ld gs i := by
  intro h2; unfold Ld at h2; rw [h] at h2
  have := congrArg List.length h2; simp at this
theorem Tr.quiet {i m : Nat} {o : Oper} (t : Tr E cl ops base i m o (gs i) (gs (i + 1))) : Ld gs i ∨ ((gs (i + 1)).past = (gs i).past ∧ (gs (i + 1)).h = (gs i).h ∧ (gs (i + 1)).α.d = (gs i).α.d ∧ ∀ q ∈ (gs (i + 1)).pend, q ∈ (gs i).pend ∨ (gs (i + 1)).pend = q :: (gs i).pend) := by
  unfold Ld
  generalize gs (i + 1) = g' at t
  cases t with
  | skip hw => exact Or.inr ⟨rfl, rfl, putD_d _ _ _, fun q hq => Or.inl hq⟩
  | pure hw v hv => exact Or.inr ⟨rfl, rfl, putD_d _ _ _, fun q hq => Or.inl hq⟩
  | read hw v hv hp => exact Or.inr ⟨rfl, rfl, putD_d _ _ _, fun q hq => Or.inl hq⟩
  | alloc hw row k hv =>
    refine Or.inr ⟨rfl, rfl, putD_d _ _ _, fun q hq => ?_⟩
    simp at hq
    rcases hq with rfl | hq
    · exact Or.inr rfl
    · exact Or.inl hq
  | mk hw hk =>
    refine Or.inr ⟨rfl, rfl, putD_d _ _ _, fun q hq => ?_⟩
    simp at hq
    rcases hq with rfl | hq
    · exact Or.inr rfl
    · exact Or.inl hq
  | loud hw hl v h' hv hr => exact Or.inl rfl
  | defer hw hl hr α2 hv => exact Or.inl rfl
theorem Tr.tmps {i m : Nat} {o : Oper} {g g' : G} (t : Tr E cl ops base i m o g g') : ∃ v, g'.α.t = (putD g.α o.dst v).t := by
  cases t with
  | skip hw => exact ⟨_, rfl⟩
  | pure hw v hv => exact ⟨_, rfl⟩
  | read hw v hv hp => exact ⟨_, rfl⟩
  | alloc hw row k hv => exact ⟨_, rfl⟩
  | mk hw hk => exact ⟨_, rfl⟩
  | loud hw hl v h' hv hr => exact ⟨_, rfl⟩
  | defer hw hl hr α2 hv =>
    obtain ⟨p, rfl⟩ := defer_t hv
    refine ⟨.tuple #[], ?_⟩
    cases o.dst <;> rfl
theorem Tr.rds {i m : Nat} {o : Oper} {g g' : G} (t : Tr E cl ops base i m o g g') : ∀ r ∈ g.rds, r ∈ g'.rds := by
  cases t <;> intro r hr <;> first | exact hr | exact List.mem_cons_of_mem _ hr

/-- who wrote what a slot holds -/
theorem Trace.lex (T : Trace E cl ops base N gs) : ∀ (i : Nat), i ≤ ops.length → ∀ t v, (gs i).α.t.get t = some v →
    (∃ k, k < i ∧ ∃ o, ops[k]? = some o ∧ o.dst = some t ∧ (gs (k + 1)).α.t.get t = some v) ∨ ((∀ k, k < i → ∀ o, ops[k]? = some o → o.dst ≠ some t) ∧ (gs 0).α.t.get t = some v) := by
  intro i
  induction i with
  | zero => intro _ t v h; exact Or.inr ⟨fun k hk => absurd hk (Nat.not_lt_zero _), h⟩
  | succ i ih =>
    intro hi t v h
    obtain ⟨m, o, ho, hm, hd, tr⟩ := T.at hi
    obtain ⟨u, hu⟩ := tr.tmps
    by_cases hdt : o.dst = some t
    · exact Or.inl ⟨i, Nat.lt_succ_self _, o, ho, hdt, h⟩
    · have hold : (gs i).α.t.get t = some v := by
        rw [hu] at h
        cases hod : o.dst with
        | none => rw [hod] at h; exact h
        | some d =>
          rw [hod] at h
          have h : ((gs i).α.t.set d u).get t = some v := h
          rcases Go.Ev.T.get_set h with ⟨e, _⟩ | ⟨_, h⟩
          · subst e; exact absurd hod hdt
          · exact h
      rcases ih (Nat.le_of_succ_le hi) t v hold with ⟨k, h1, h2⟩ | ⟨h1, h2⟩
      · exact Or.inl ⟨k, by omega, h2⟩
      · refine Or.inr ⟨fun k hk o' ho' => ?_, h2⟩
        by_cases e : k = i
        · subst e; rw [ho] at ho'; injection ho' with ho'; subst ho'; exact hdt
        · exact h1 k (by omega) o' ho'

/-- nothing loud between: the memory stands -/
theorem Trace.still (T : Trace E cl ops base N gs) {j : Nat} : ∀ (i : Nat), j ≤ i → i ≤ ops.length → (∀ k, j ≤ k → k < i → ¬ Ld gs k) →
    (gs i).h = (gs j).h ∧ (gs i).α.d = (gs j).α.d ∧ ∀ q ∈ (gs i).pend, q ∈ (gs j).pend ∨ j ≤ q.i := by
  intro i
  induction i with
  | zero => intro hj _ _; obtain rfl : j = 0 := by omega
            exact ⟨rfl, rfl, fun q hq => Or.inl hq⟩
  | succ i ih =>
    intro hj hi hno
    by_cases e : j = i + 1
    · subst e; exact ⟨rfl, rfl, fun q hq => Or.inl hq⟩
    · obtain ⟨h1, h2, h3⟩ := ih (by omega) (by omega) fun k hk hk2 => hno k hk (by omega)
      obtain ⟨m, o, ho, hm, hd, tr⟩ := T.at hi
      have tr' := tr
      rcases tr.quiet with hl | ⟨_, k1, k2, k3⟩
      · exact absurd hl (hno i (by omega) (by omega))
      · refine ⟨k1.trans h1, k2.trans h2, fun q hq => ?_⟩
        rcases k3 q hq with hq | hq
        · exact h3 q hq
        · right
          have : q.i = i := by
            generalize gs (i + 1) = g' at tr' hq
            cases tr' with
            | alloc hw row k hv => simp at hq; rw [← hq]
            | mk hw hk => simp at hq; rw [← hq]
            | skip hw => have := congrArg List.length hq; simp at this
            | pure hw v hv => have := congrArg List.length hq; simp at this
            | read hw v hv hp => have := congrArg List.length hq; simp at this
            | defer hw hl hr α2 hv => have := congrArg List.length hq; simp at this
            | loud hw hl v h' hv hr =>
              have h4 := congrArg List.length hq
              simp only [absorb_eq, List.length_cons] at h4
              have := List.length_filter_le (fun q => !Nat.testBit m q.i) (gs i).pend
              omega
          omega

def Fresh (gs : Nat → G) (base : Nat) (q : Pend) : Prop := (gs (q.i + 1)).pend = q :: (gs q.i).pend ∧ q.id = base + q.i
theorem Fresh.uniq {q q' : Pend} (h : Fresh gs base q) (h' : Fresh gs base q') (e : q.i = q'.i) : q = q' := by
  unfold Fresh at h h'
  rw [e] at h
  have := h.1.symm.trans h'.1
  injection this

theorem Trace.pends (T : Trace E cl ops base N gs) : ∀ (i : Nat), i ≤ ops.length → (∀ q ∈ (gs i).pend, q.i < i ∧ Fresh gs base q) ∧ (gs i).pend.Pairwise (fun q q' => q.i ≠ q'.i) := by
  intro i
  induction i with
  | zero => intro _; rw [T.pend0]; simp
  | succ i ih =>
    intro hi
    obtain ⟨h1, h2⟩ := ih (by omega)
    obtain ⟨m, o, ho, hm, hd, tr⟩ := T.at hi
    have same : ∀ l, (gs (i + 1)).pend = l → (∀ q ∈ l, q ∈ (gs i).pend) → l.Sublist (gs i).pend → (∀ q ∈ (gs (i + 1)).pend, q.i < i + 1 ∧ Fresh gs base q) ∧ (gs (i + 1)).pend.Pairwise (fun q q' => q.i ≠ q'.i) := by
      intro l hl hin hsub
      rw [hl]
      exact ⟨fun q hq => ⟨by have := (h1 q (hin q hq)).1; omega, (h1 q (hin q hq)).2⟩, h2.sublist hsub⟩
    generalize hg : gs (i + 1) = g' at tr same
    cases tr with
    | skip hw => exact same _ rfl (fun q hq => hq) (List.Sublist.refl _)
    | pure hw v hv => exact same _ rfl (fun q hq => hq) (List.Sublist.refl _)
    | read hw v hv hp => exact same _ rfl (fun q hq => hq) (List.Sublist.refl _)
    | defer hw hl hr α2 hv => exact same _ rfl (fun q hq => hq) (List.Sublist.refl _)
    | loud hw hl v h' hv hr =>
      refine same _ rfl ?_ ?_
      · intro q hq; rw [absorb_eq] at hq; exact (List.mem_filter.1 hq).1
      · rw [absorb_eq]; exact List.filter_sublist
    | alloc hw row k hv =>
      refine ⟨fun q hq => ?_, ?_⟩
      · simp at hq
        rcases hq with rfl | hq
        · exact ⟨Nat.lt_succ_self _, by unfold Fresh; simp only [hg, and_self]⟩
        · exact ⟨by have := (h1 q hq).1; omega, (h1 q hq).2⟩
      · simp only [List.pairwise_cons]
        exact ⟨fun q hq => by have := (h1 q hq).1; simp only [ne_eq]; omega, h2⟩
    | mk hw hk =>
      refine ⟨fun q hq => ?_, ?_⟩
      · simp at hq
        rcases hq with rfl | hq
        · exact ⟨Nat.lt_succ_self _, by unfold Fresh; simp only [hg, and_self]⟩
        · exact ⟨by have := (h1 q hq).1; omega, (h1 q hq).2⟩
      · simp only [List.pairwise_cons]
        exact ⟨fun q hq => by have := (h1 q hq).1; simp only [ne_eq]; omega, h2⟩

/-- the last loud one -/
theorem Trace.last (T : Trace E cl ops base N gs) : ∀ (i : Nat), i ≤ ops.length → ((gs i).past = [] ∧ ∀ k, k < i → ¬ Ld gs k) ∨ ∃ p r, (gs i).past = p :: r ∧ p.1 < i ∧ Ld gs p.1 ∧ ∀ k, k < i → Ld gs k → k ≤ p.1 := by
  intro i
  induction i with
  | zero => intro _; exact Or.inl ⟨T.past0, fun k hk => absurd hk (Nat.not_lt_zero _)⟩
  | succ i ih =>
    intro hi
    obtain ⟨m, o, ho, hm, hd, tr⟩ := T.at hi
    rcases tr.quiet with hl | ⟨hp, _⟩
    · exact Or.inr ⟨_, _, hl, Nat.lt_succ_self _, hl, fun k hk _ => by simp only; omega⟩
    · have hn := notLd hp
      rcases ih (by omega) with ⟨h1, h2⟩ | ⟨p, r, h1, h2, h0, h3⟩
      · refine Or.inl ⟨hp.trans h1, fun k hk => ?_⟩
        by_cases e : k = i
        · subst e; exact hn
        · exact h2 k (by omega)
      · refine Or.inr ⟨p, r, hp.trans h1, by omega, h0, fun k hk hl => ?_⟩
        by_cases e : k = i
        · subst e; exact absurd hl hn
        · exact h3 k (by omega) hl

theorem pastOk_cons (α : A) (op : Op) (v : Value) (mask : Nat) (r : Nat × H) (l : List (Nat × H)) : pastOk E α op v mask (r :: l) =
    bi (Nat.testBit mask r.1) true (match readE op E α r.2 with | some u => bi (veq u v) (pastOk E α op v mask l) false | none => false) := rfl
theorem rdsOk_cons (h : H) (mask : Nat) (r : Rd) (l : List Rd) : rdsOk E h mask (r :: l) =
    bi (Nat.testBit mask r.i) (rdsOk E h mask l) (match readE r.op E r.α h with | some v => bi (veq v r.v) (rdsOk E h mask l) false | none => false) := rfl
theorem rdsOk_mem {h : H} {mask : Nat} : ∀ {l : List Rd}, rdsOk E h mask l = true → ∀ r ∈ l, Nat.testBit mask r.i = false → readE r.op E r.α h = some r.v := by
  intro l
  induction l with
  | nil => intro _ r hr; simp at hr
  | cons r' l ih =>
    intro hl r hr hb
    rw [rdsOk_cons, bi_eq] at hl
    simp at hr
    split at hl
    · rename_i hb'
      rcases hr with rfl | hr
      · rw [hb] at hb'; cases hb'
      · exact ih hl r hr hb
    · split at hl
      · rename_i v hv
        rw [bi_tf] at hl
        rcases hr with rfl | hr
        · rw [hv, veq_eq hl.1]
        · exact ih hl.2 r hr hb
      · cases hl

/-- what a read ahead of the loud ones would have given -/
theorem Trace.back (T : Trace E cl ops base N gs) {α : A} {op : Op} {v : Value} {mask j : Nat} : ∀ (i : Nat), j ≤ i → i ≤ ops.length → (∀ k, j ≤ k → k < i → Ld gs k → Nat.testBit mask k = false) →
    pastOk E α op v mask (gs i).past = true → readE op E α (gs i).h = some v → readE op E α (gs j).h = some v := by
  intro i
  induction i with
  | zero => intro hj _ _ _ h; obtain rfl : j = 0 := by omega
            exact h
  | succ i ih =>
    intro hj hi hno hp hv
    by_cases e : j = i + 1
    · subst e; exact hv
    · obtain ⟨m, o, ho, hm, hd, tr⟩ := T.at hi
      rcases tr.quiet with hl | ⟨hpast, hh, _⟩
      · rw [hl, pastOk_cons, hno i (by omega) (by omega) hl, bi_false] at hp
        split at hp
        · rename_i u hu
          rw [bi_tf] at hp
          have := veq_eq hp.1; subst this
          exact ih (by omega) (by omega) (fun k h1 h2 => hno k h1 (by omega)) hp.2 hu
        · cases hp
      · rw [hpast] at hp; rw [hh] at hv
        exact ih (by omega) (by omega) (fun k h1 h2 => hno k h1 (by omega)) hp hv

theorem Trace.rds_mono (T : Trace E cl ops base N gs) {k : Nat} {r : Rd} (hr : r ∈ (gs k).rds) : ∀ (i : Nat), k ≤ i → i ≤ ops.length → r ∈ (gs i).rds := by
  intro i
  induction i with
  | zero => intro hk _; obtain rfl : k = 0 := by omega
            exact hr
  | succ i ih =>
    intro hk hi
    by_cases e : k = i + 1
    · subst e; exact hr
    · obtain ⟨m, o, ho, hm, hd, tr⟩ := T.at hi
      exact tr.rds r (ih (by omega) (by omega))
end
end Go.Ev
