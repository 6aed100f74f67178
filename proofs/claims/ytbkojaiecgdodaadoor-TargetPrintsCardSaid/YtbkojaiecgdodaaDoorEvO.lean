/- A part of an evaluator of runs, and that it is right. -/
import Derived.Test.YtbkojaiecgdodaaDoorEvN
set_option linter.unusedVariables false
set_option linter.unusedSimpArgs false
set_option linter.unusedSectionVars false
namespace Go.Ev
variable [Den]
section
variable {P : Program} {eqs : List Nat} {clone : Sp} {n0 N : Nat} {ρ ρ' : Rho} {h : H} {α : A} {a : Act} {w w' : World}
variable {E : Env} {cl : CallT} {ops : List Oper} {base j : Nat} {gs : Nat → G} {ρ0 : Rho} {h0 : H} {w0 : World} {D : Nat → Prop}

theorem Inv.alloc (T : Trace E cl ops base N gs) (I : Inv P n0 N base ops gs ρ0 h0 w0 D j ρ a w) {i : Nat} {o : Oper} (ho : ops[i]? = some o) (hO : OpOk ops i o) (hD : ¬ D i) (hdN : ∀ t, o.dst = some t → t < N) (he : ∀ e ∈ o.after.toList, binding e = true → D e.on)
    (hb : h0.next ≤ base) {row : Option (List Value)} {obj : Obj} {lim : Nat} {v v' : Value} (ht : (gs (i + 1)).α.t = (putD (gs i).α o.dst v).t) (hr : RO ρ row obj lim) (hv : VR (upd ρ (base + i) w.heap.size 0 lim) v v') (hq : ¬ Ld gs i) (hp : (gs (i + 1)).pend = ⟨i, base + i, row⟩ :: (gs i).pend) :
    Inv P n0 N base ops gs ρ0 h0 w0 (fun k => D k ∨ k = i) j (upd ρ (base + i) w.heap.size 0 lim) (a.put o.dst v') { w with heap := w.heap.push obj } := by
  have hi := (List.getElem?_eq_some_iff.1 ho).1
  have hid : ρ (base + i) = .none := I.none i hi hD
  have hlt : base + i < (gs j).h.next := by have := I.nxt; omega
  have sp := I.sim.pushed obj
  have hni : ¬ Img ρ (gs j).h w.heap.size := fun h => Nat.lt_irrefl _ (img_lt I.sim h)
  have hno : ∀ x y, ρ x ≠ some (w.heap.size, y) := fun x y h => Nat.lt_irrefl _ (I.sim.inh x _ y h)
  obtain ⟨s', L, himg⟩ := sp.widen (lim := lim) hid hlt (by simp) hni hno
  have hsame := upd_same ρ (base + i) w.heap.size 0 lim
  obtain ⟨s1, s2, s3⟩ := I.put T ho hO hD hdN L (a1 := a) rfl ht hv
  have low : w0.heap.size ≤ w.heap.size := I.step.size
  have isq : ∀ q, Fresh gs base q → q.i = i → q = ⟨i, base + i, row⟩ := by
    intro q hf e
    have := hf.1; rw [e, hp] at this
    injection this with this; exact this.symm
  refine ⟨fun k hk => ?_, I.down' ho he, I.jn, fun k hk hl => ?_, ?_, s', ?_, I.nxt, ?_, ?_, ?_, s1, s2, s3, ?_⟩
  · rcases hk with hk | hk
    · exact I.lt k hk
    · omega
  · have := I.loud k hk hl
    constructor
    · rintro (h | h)
      · exact this.1 h
      · subst h; exact absurd hl hq
    · exact fun h => Or.inl (this.2 h)
  · rcases I.lastj with h | ⟨l, h1, h2, h3⟩
    · exact Or.inl h
    · exact Or.inr ⟨l, h1, h2, Or.inl h3⟩
  · refine ⟨I.step.ext.trans L, fun x p hx => ?_, I.step.next, I.step.os, I.step.tape, I.step.output, ?_, fun B hB hn => ?_, fun B hB => I.step.img B (himg B hB)⟩
    · by_cases e : x = base + i
      · exact Or.inr (by omega)
      · rw [upd_ne e] at hx; exact I.step.fresh x p hx
    · simp only [Array.size_push]; omega
    · rw [heap_push w _ B (by omega)]; exact I.step.keep B hB hn
  · intro q hf hd hw
    by_cases e : q.i = i
    · have := isq q hf e; subst this
      refine ⟨⟨w.heap.size, obj, hsame, heap_push_new w _, by rw [upd_lim]; exact hr.mono L, I.sim.low, fun h => hni (himg _ h)⟩, fun B hB => ?_⟩
      have hB : upd ρ (base + i) w.heap.size 0 lim (base + i) = some (B, 0) := hB
      rw [hsame] at hB; injection hB with hB; injection hB with e1 _; omega
    · obtain ⟨⟨B, o2, h1, h2, h3, h4, h5⟩, h7⟩ := I.rows q hf (hd.resolve_right e) hw
      refine ⟨⟨B, o2, L.get _ _ h1, ?_, ?_, h4, fun h => h5 (himg _ h)⟩, fun B' hB' => ?_⟩
      · rw [heap_push w _ B (lt_of_some h2)]; exact h2
      · rw [L.lim _ _ _ h1]; exact h3.mono L
      · rw [L.get _ _ h1] at hB'; injection hB' with hB'; injection hB' with e1 _
        subst e1; exact h7 _ h1
  · intro q q' hf hf' hd hd' hne B hB hB'
    have back : ∀ q, Fresh gs base q → q.i ≠ i → ∀ B, upd ρ (base + i) w.heap.size 0 lim q.id = some (B, 0) → ρ q.id = some (B, 0) := by
      intro q hf e B hB
      rwa [upd_ne (by rw [hf.2]; omega)] at hB
    by_cases e : q.i = i
    · have := isq q hf e; subst this
      have hB : upd ρ (base + i) w.heap.size 0 lim (base + i) = some (B, 0) := hB
      rw [hsame] at hB; injection hB with hB; injection hB with e1 _
      subst e1
      exact hno _ _ (back q' hf' (fun h => hne (by simp [h])) _ hB')
    · by_cases e' : q'.i = i
      · have := isq q' hf' e'; subst this
        have hB' : upd ρ (base + i) w.heap.size 0 lim (base + i) = some (B, 0) := hB'
        rw [hsame] at hB'; injection hB' with hB'; injection hB' with e1 _
        subst e1
        exact hno _ _ (back q hf e _ hB)
      · exact I.dist q q' hf hf' (hd.resolve_right e) (hd'.resolve_right e') hne B (back q hf e B hB) (back q' hf' e' B hB')
  · intro p hp' hn
    have : p ≠ i := fun e => hn (Or.inr e)
    rw [upd_ne (by omega)]
    exact I.none p hp' fun h => hn (Or.inl h)
  · have : (a.put o.dst v').defers = a.defers := by cases o.dst <;> rfl
    rw [this]; exact I.defs.mono L

theorem Inv.absorb (T : Trace E cl ops base N gs) (I : Inv P n0 N base ops gs ρ0 h0 w0 D j ρ a w) {i m : Nat} (hi : i ≤ ops.length) (hji : j ≤ i) (hno : ∀ k, j ≤ k → k < i → ¬ Ld gs k) (hm : ∀ k, Nat.testBit m k = true → D k) :
    ∃ ρ1, Sim P.globals.size n0 ρ1 (absorb m (gs i).pend (gs i).h).1 w ∧ Le ρ ρ1 ∧ (∀ x p, ρ1 x = some p → ρ x = some p ∨ (gs j).h.next ≤ x) ∧ (gs j).h.next ≤ (Ev.absorb m (gs i).pend (gs i).h).1.next ∧
      (∀ B, Img ρ1 (Ev.absorb m (gs i).pend (gs i).h).1 B → Img ρ (gs j).h B ∨ ∃ q ∈ (gs i).pend, Nat.testBit m q.i = true ∧ ρ q.id = some (B, 0)) ∧ Step ρ0 h0 w0 ρ1 (Ev.absorb m (gs i).pend (gs i).h).1 w := by
  obtain ⟨e1, _, e3⟩ := T.still i hji hi hno
  obtain ⟨hp1, hp2⟩ := T.pends i hi
  rw [absorb_eq, e1]
  have hin : ∀ q ∈ (gs i).pend.filter (fun q => Nat.testBit m q.i), q ∈ (gs i).pend ∧ D q.i ∧ Nat.testBit m q.i = true := by
    intro q hq
    obtain ⟨h1, h2⟩ := List.mem_filter.1 hq
    exact ⟨h1, hm _ h2, h2⟩
  have hrow : ∀ q ∈ (gs i).pend.filter (fun q => Nat.testBit m q.i), RowOk n0 ρ (gs j).h w q ∧ ∀ B, ρ q.id = some (B, 0) → w0.heap.size ≤ B := by
    intro q hq
    obtain ⟨h1, h2, _⟩ := hin q hq
    exact I.rows q (hp1 q h1).2 h2 (e3 q h1)
  obtain ⟨ρ1, k1, k2, k3, k4, k5⟩ := addAll_sound _ ρ (gs j).h I.sim (fun q hq => (hrow q hq).1) (by
    refine List.Pairwise.imp_of_mem ?_ (hp2.sublist List.filter_sublist)
    intro q q' hq hq' hne
    obtain ⟨h1, h2, _⟩ := hin q hq
    obtain ⟨h1', h2', _⟩ := hin q' hq'
    exact I.dist q q' (hp1 q h1).2 (hp1 q' h1').2 h2 h2' hne)
  refine ⟨ρ1, k1, k2, k3, k4, fun B hB => ?_, ⟨I.step.ext.trans k2, fun x p hx => ?_, Nat.le_trans I.step.next k4, I.step.os, I.step.tape, I.step.output, I.step.size, I.step.keep, fun B hB => ?_⟩⟩
  · rcases k5 B hB with h | ⟨q, hq, h⟩
    · exact Or.inl h
    · exact Or.inr ⟨q, (hin q hq).1, (hin q hq).2.2, h⟩
  · rcases k3 x p hx with h | h
    · exact I.step.fresh x p h
    · exact Or.inr (Nat.le_trans I.step.next h)
  · rcases k5 B hB with h | ⟨q, hq, h⟩
    · exact I.step.img B h
    · exact Or.inl ((hrow q hq).2 B h)

theorem Inv.after (T : Trace E cl ops base N gs) (I : Inv P n0 N base ops gs ρ0 h0 w0 D j ρ a w) {i m : Nat} {o : Oper} (ho : ops[i]? = some o) (hO : OpOk ops i o) (hD : ¬ D i) (hdN : ∀ t, o.dst = some t → t < N) (he : ∀ e ∈ o.after.toList, binding e = true → D e.on)
    (hji : j ≤ i) (hno : ∀ k, j ≤ k → k < i → ¬ Ld gs k) (hm : ∀ k, Nat.testBit m k = true → D k) (hl : Ld gs i) (hp : (gs (i + 1)).pend = (Ev.absorb m (gs i).pend (gs i).h).2)
    {ρ1 ρ2 : Rho} (L1 : Le ρ ρ1) (hfr : ∀ x p, ρ1 x = some p → ρ x = some p ∨ (gs j).h.next ≤ x) (hnx : (gs j).h.next ≤ (Ev.absorb m (gs i).pend (gs i).h).1.next)
    (him : ∀ B, Img ρ1 (Ev.absorb m (gs i).pend (gs i).h).1 B → Img ρ (gs j).h B ∨ ∃ q ∈ (gs i).pend, Nat.testBit m q.i = true ∧ ρ q.id = some (B, 0)) (hst : Step ρ0 h0 w0 ρ1 (Ev.absorb m (gs i).pend (gs i).h).1 w)
    (s2 : Sim P.globals.size n0 ρ2 (gs (i + 1)).h w') (st2 : Step ρ1 (Ev.absorb m (gs i).pend (gs i).h).1 w ρ2 (gs (i + 1)).h w') {a1 : Act} (ha : a1.tmps = a.tmps) (hdf : DR ρ2 (gs (i + 1)).α.d a1.defers)
    {v v' : Value} (ht : (gs (i + 1)).α.t = (putD (gs i).α o.dst v).t) (hv : VR ρ2 v v') :
    Inv P n0 N base ops gs ρ0 h0 w0 (fun k => D k ∨ k = i) (i + 1) ρ2 (a1.put o.dst v') w' := by
  have hi := (List.getElem?_eq_some_iff.1 ho).1
  obtain ⟨hp1, hp2⟩ := T.pends i (Nat.le_of_lt hi)
  obtain ⟨_, _, e3⟩ := T.still i hji (Nat.le_of_lt hi) hno
  have L := L1.trans st2.ext
  obtain ⟨z1, z2, z3⟩ := I.put T ho hO hD hdN L ha ht hv
  rw [absorb_eq] at hp
  have notq : ∀ q, Fresh gs base q → q.i ≠ i := by
    intro q hf e
    have h1 := hf.1; rw [e, hp] at h1
    have h1 := congrArg List.length h1
    have := List.length_filter_le (fun q => !Nat.testBit m q.i) (gs i).pend
    simp only [List.length_cons] at h1
    omega
  have od : ∀ q, Fresh gs base q → (D q.i ∨ q.i = i) → D q.i := fun q hf h => h.resolve_right (notq q hf)
  have lowid : ∀ x p, x < (gs j).h.next → ρ2 x = some p → ρ x = some p := by
    intro x p hx hr
    rcases st2.fresh x p hr with hr | hr
    · rcases hfr x p hr with hr | hr
      · exact hr
      · omega
    · omega
  have qlow : ∀ q, Fresh gs base q → D q.i → q.id < (gs j).h.next := by
    intro q hf hd
    have := I.lt _ hd
    have := I.nxt
    rw [hf.2]; omega
  refine ⟨fun k hk => ?_, I.down' ho he, hi, fun k hk hl' => ?_, Or.inr ⟨i, rfl, hl, Or.inr rfl⟩, s2, hst.trans st2, Nat.le_trans I.nxt (Nat.le_trans hnx st2.next), ?_, ?_, ?_, z1, z2, z3, ?_⟩
  · rcases hk with hk | hk
    · exact I.lt k hk
    · omega
  · have := I.loud k hk hl'
    constructor
    · rintro (h | h)
      · have := this.1 h; omega
      · omega
    · intro h
      by_cases e : k = i
      · exact Or.inr e
      · left
        refine this.2 ?_
        by_cases c : k < j
        · exact c
        · exact absurd hl' (hno k (by omega) (by omega))
  · intro q hf hd hw
    have hd := od q hf hd
    have hold : q ∈ (gs j).pend ∨ j ≤ q.i := by
      rcases hw with hw | hw
      · rw [hp] at hw; exact e3 q (List.mem_filter.1 hw).1
      · exact Or.inr (by omega)
    have hnot : ∀ q' ∈ (gs i).pend, Nat.testBit m q'.i = true → q'.i ≠ q.i := by
      intro q' hq' hb e
      rcases hw with hw | hw
      · rw [hp] at hw
        have := (List.mem_filter.1 hw).2
        rw [← e, hb] at this
        cases this
      · have := (hp1 q' hq').1; omega
    obtain ⟨⟨B, o2, h1, h2, h3, h4, h5⟩, h7⟩ := I.rows q hf hd hold
    have hni1 : ¬ Img ρ1 (Ev.absorb m (gs i).pend (gs i).h).1 B := by
      intro hI
      rcases him B hI with hI | ⟨q', hq', hb, hr⟩
      · exact h5 hI
      · exact I.dist q' q (hp1 q' hq').2 hf (hm _ hb) hd (hnot q' hq' hb) B hr h1
    have hBl := lt_of_some h2
    refine ⟨⟨B, o2, L.get _ _ h1, ?_, ?_, h4, fun hI => ?_⟩, fun B' hB' => ?_⟩
    · rw [st2.keep B hBl hni1]; exact h2
    · rw [L.lim _ _ _ h1]; exact h3.mono L
    · rcases st2.img B hI with hI | hI
      · omega
      · exact hni1 hI
    · rw [L.get _ _ h1] at hB'; injection hB' with hB'; injection hB' with e1 _
      subst e1; exact h7 _ h1
  · intro q q' hf hf' hd hd' hne B hB hB'
    have hd := od q hf hd
    have hd' := od q' hf' hd'
    exact I.dist q q' hf hf' hd hd' hne B (lowid _ _ (qlow q hf hd) hB) (lowid _ _ (qlow q' hf' hd') hB')
  · intro p hp' hn
    cases hr : ρ2 (base + p) with
    | none => rfl
    | some x =>
      have := lowid _ _ (by have := I.nxt; omega) hr
      rw [I.none p hp' fun h => hn (Or.inl h)] at this
      cases this
  · have : (a1.put o.dst v').defers = a1.defers := by cases o.dst <;> rfl
    rw [this]; exact hdf

/-- all is behind -/
theorem Inv.done (T : Trace E cl ops base N gs) (I : Inv P n0 N base ops gs ρ0 h0 w0 D j ρ a w) (hall : ∀ k, k < ops.length → D k) :
    ∃ ρ1, St P n0 ρ1 N (gs ops.length).α (absorbAll (gs ops.length).pend (gs ops.length).h) a w ∧ Step ρ0 h0 w0 ρ1 (absorbAll (gs ops.length).pend (gs ops.length).h) w := by
  have hno : ∀ k, j ≤ k → k < ops.length → ¬ Ld gs k := fun k h1 h2 hl => by have := (I.loud k h2 hl).1 (hall k h2); omega
  obtain ⟨e1, e2, e3⟩ := T.still ops.length I.jn (Nat.le_refl _) hno
  obtain ⟨hp1, hp2⟩ := T.pends ops.length (Nat.le_refl _)
  rw [absorbAll_eq, e1]
  have hrow : ∀ q ∈ (gs ops.length).pend, RowOk n0 ρ (gs j).h w q ∧ ∀ B, ρ q.id = some (B, 0) → w0.heap.size ≤ B := fun q hq => I.rows q (hp1 q hq).2 (hall _ (hp1 q hq).1) (e3 q hq)
  obtain ⟨ρ1, k1, k2, k3, k4, k5⟩ := addAll_sound _ ρ (gs j).h I.sim (fun q hq => (hrow q hq).1) (by
    refine List.Pairwise.imp_of_mem ?_ hp2
    intro q q' hq hq' hne
    exact I.dist q q' (hp1 q hq).2 (hp1 q' hq').2 (hall _ (hp1 q hq).1) (hall _ (hp1 q' hq').1) hne)
  refine ⟨ρ1, ⟨k1, I.size, fun t v hv => ?_, ?_⟩, ⟨I.step.ext.trans k2, fun x p hx => ?_, Nat.le_trans I.step.next k4, I.step.os, I.step.tape, I.step.output, I.step.size, I.step.keep, fun B hB => ?_⟩⟩
  · rcases T.lex ops.length (Nat.le_refl _) t v hv with ⟨k, h1, o, ho, hd, hv⟩ | ⟨h1, h2⟩
    · obtain ⟨v', h3, h4⟩ := I.slot1 k o t v (hall k h1) ho hd hv
      exact ⟨v', h3, h4.mono k2⟩
    · obtain ⟨v', h3, h4⟩ := I.slot0 t v (fun k o hk ho => h1 k (I.lt k hk) o ho) h2
      exact ⟨v', h3, h4.mono k2⟩
  · rw [e2]; exact I.defs.mono k2
  · rcases k3 x p hx with h | h
    · exact I.step.fresh x p h
    · exact Or.inr (Nat.le_trans I.step.next h)
  · rcases k5 B hB with h | ⟨q, hq, h⟩
    · exact I.step.img B h
    · exact Or.inl ((hrow q hq).2 B h)
end
end Go.Ev
