/- A part of an evaluator of runs, and that it is right. -/
import Derived.Test.YtbkojaiecgdodaaDoorEvO
set_option linter.unusedVariables false
set_option linter.unusedSimpArgs false
set_option linter.unusedSectionVars false
namespace Go.Ev
variable [Den]
section
variable {P : Program} {eqs : List Nat} {clone : Sp} {n0 N : Nat} {ρ ρ' : Rho} {h : H} {α : A} {a : Act} {w w' : World}

theorem defer_run (c : Ctx P eqs ρ α a) {o : Oper} {α2 : A} (hv : deferE o.op (Env.of P eqs clone) α = some α2) :
    ∃ p d, α2 = ⟨α.t, p :: α.d⟩ ∧ (execOp a.eval o).run P w = .ok (.defer d) w ∧ ∀ l m, DR ρ l m → DR ρ (p :: l) (d :: m) := by
  unfold deferE at hv
  split at hv
  · rename_i cc hop
    split at hv
    · rename_i f hcal
      rw [ob_some] at hv
      obtain ⟨args, hargs0, hv⟩ := hv
      rw [ob_some] at hv
      obtain ⟨fv, hf0, hv⟩ := hv
      have hargs := c.opvs hargs0
      have hf := c.opv hf0
      clear hargs0 hf0
      split at hv
      · rename_i g fa fb
        injection hv with hv; subst hv
        have hka : (cc.args.map a.eval) = ⟨cc.args.toList.map a.eval⟩ := by apply Array.ext'; simp
        generalize hfe : a.eval f = fe at hf
        cases hf with
        | func _ _ ys _ ws hfa hfb =>
          refine ⟨_, { target := .fn (.func g) ⟨ws⟩, args := ⟨ys ++ cc.args.toList.map a.eval⟩ }, rfl, ?_, fun l m hd => .cons _ _ _ _ _ _ ((hfa.append hargs).append hfb) hd⟩
          simp only [execOp, hop, resolve, hcal, hka, hfe, Deferred.ofValue, Sem.run_bind, Sem.run_pure, Result.andThen_ok]
          simp
      · cases hv
    · cases hv
  · cases hv

theorem Sim.up {ng : Nat} (s : Sim ng n0 ρ h w) (n : Nat) : Sim ng n0 ρ ⟨h.next + n, h.bl, h.mem⟩ w :=
  ⟨fun i p hi => Nat.lt_of_lt_of_le (s.born i p hi) (Nat.le_add_right _ _), s.inh, s.rows, s.glob, s.lowOk, s.cells, s.ro, s.maps, s.iters, s.objs, s.cls, s.mem, s.clsb, s.inj⟩

variable {cl : CallT} {ops : List Oper} {base j : Nat} {gs : Nat → G} {ρ0 : Rho} {h0 : H} {w0 : World} {D : Nat → Prop}

theorem binds_any (e : Edge) : Region.binds .any e = binding e := by
  unfold Region.binds binding
  cases e.ground <;> rfl

/-- an operation whose turn it is -/
theorem Inv.fire (ok : Ok P eqs clone) (hc : CallOk P P.globals.size n0 cl) (T : Trace (Env.of P eqs clone) cl ops base N gs) (I : Inv P n0 N base ops gs ρ0 h0 w0 D j ρ a w) (hbase : h0.next ≤ base) {i : Nat} {o : Oper} (ho : ops[i]? = some o) (hD : ¬ D i)
    (he : ∀ e ∈ o.after.toList, binding e = true → D e.on) {ro : Option Nat} (hnd : ro = Option.none ∨ ∀ c, o.op ≠ .defer c) {Q : Exit → Act → World → Prop} {K : Act → World → Prop}
    (hK : ∀ j' ρ' a' w', Inv P n0 N base ops gs ρ0 h0 w0 (fun k => D k ∨ k = i) j' ρ' a' w' → K a' w') : wpOpIn (Fr ro) 0 P ⟨ops⟩ Q i K a w := by
  have hi := (List.getElem?_eq_some_iff.1 ho).1
  have hOs : ∀ k p, ops[k]? = some p → OpOk ops k p := fun k p hp => regionOk_spec T.ok k p hp
  have hO := hOs i o ho
  obtain ⟨m, hm, hdN, tr⟩ := T.step i o ho
  have hal : Alike (Env.of P eqs clone) (gs i).α (seen ops gs D i) o.op := I.alike hO hOs hD he
  have hwE := I.wanted hO hOs hD he
  have hsl := I.slots T hi hD
  have c : Ctx P eqs ρ (seen ops gs D i) a := ⟨hsl, I.sim.glob, ok.eq, ok.pures, ok.loads⟩
  have hmask : ∀ k, Nat.testBit m k = true → D k := fun k hk => mask_in I.down i o ho he m k hm hk
  have hoi' : (⟨ops⟩ : Array Oper)[i]? = some o := by simpa using ho
  have wnt : ∀ b, wantedE ops (gs i).α o = some b → Region.wanted o (yielded ⟨ops⟩ a.tmps) = b := fun b hb => wanted_sound hsl (by rw [hwE]; exact hb)
  -- loud ones: where the memory stands
  have front : Ld gs i → lastOk m (gs i).past = true → j ≤ i ∧ ∀ k, j ≤ k → k < i → ¬ Ld gs k := by
    intro hl hla
    have h1 : j ≤ i := by
      have := I.loud i hi hl
      by_cases c : i < j
      · exact absurd (this.2 c) hD
      · omega
    refine ⟨h1, fun k hk hk2 hlk => ?_⟩
    rcases T.last i (Nat.le_of_lt hi) with ⟨_, h2⟩ | ⟨p, r, h2, h3, h4, h5⟩
    · exact h2 k hk2 hlk
    · rw [h2] at hla
      have hDp := hmask p.1 hla
      have := (I.loud p.1 (by omega) h4).1 hDp
      have := h5 k hk2 hlk
      omega
  unfold wpOpIn
  rw [hoi']
  simp only
  have hgen : ∀ g', g' = gs (i + 1) → Tr (Env.of P eqs clone) cl ops base i m o (gs i) g' → (if Region.wanted o (yielded ⟨ops⟩ a.tmps) = true then o.wpIn (Fr ro) 0 P a w K Q else (∀ f, o.about P w a.eval = some f → (Fr ro).fn f) ∧ K (a.put o.dst undef) w) := by
    intro g' hg t
    cases t with
    | skip hw =>
      rw [wnt _ hw]
      simp only [Bool.false_eq_true, if_false]
      refine ⟨fun _ _ => trivial, ?_⟩
      exact hK j ρ _ w (I.quiet T ho hO hD hdN he (v := .tuple #[]) (by rw [← hg]) (.tuple _ _ .nil) (notLd (by rw [← hg])) (by rw [← hg]))
    | pure hw v hv =>
      rw [wnt _ hw]
      simp only [if_true]
      rw [pure_congr hal] at hv
      obtain ⟨v', h1, h2⟩ := pure_sound (w := w) c hv
      exact wpIn_of_res (Or.inl ⟨v', w, h1, (⟨rfl, rfl⟩ : v' = v' ∧ w = w)⟩) hnd (K := fun u w1 => u = v' ∧ w1 = w) (fun u w1 ⟨e1, e2⟩ => by
        subst e1; subst e2
        exact hK j ρ _ _ (I.quiet T ho hO hD hdN he (v := v) (by rw [← hg]) h2 (notLd (by rw [← hg])) (by rw [← hg])))
    | read hw v hv hp =>
      rw [wnt _ hw]
      simp only [if_true]
      have hvj : readE o.op (Env.of P eqs clone) (gs i).α (gs j).h = some v := by
        by_cases hji : j ≤ i
        · refine T.back i hji (Nat.le_of_lt hi) (fun k h1 h2 hl => ?_) hp hv
          cases hb : Nat.testBit m k
          · rfl
          · have := (I.loud k (by omega) hl).1 (hmask k hb); omega
        · rcases I.lastj with h1 | ⟨l, h1, h2, h3⟩
          · omega
          · have hil : i ≠ l := fun e => hD (e ▸ h3)
            have hl := I.lt l h3
            obtain ⟨ml, ol, hol, hml, _, trl⟩ := T.at hl
            have hbit : Nat.testBit ml i = false := by
              cases hb : Nat.testBit ml i
              · rfl
              · exact absurd (mask_in I.down l ol hol (fun e h4 h5 => I.down l ol h3 hol e h4 h5) ml i hml hb) hD
            have hmem : (⟨i, o.op, (gs i).α, v⟩ : Rd) ∈ (gs l).rds := T.rds_mono (k := i + 1) (by rw [← hg]; simp) l (by omega) (Nat.le_of_lt hl)
            rw [h1]
            have h2 : (gs (l + 1)).past = (l, (gs l).h) :: (gs l).past := h2
            generalize gs (l + 1) = gl at trl h2
            cases trl with
            | skip hw => have := congrArg List.length h2; simp at this
            | pure hw v hv => have := congrArg List.length h2; simp at this
            | read hw v hv hp => have := congrArg List.length h2; simp at this
            | alloc hw row k hv => have := congrArg List.length h2; simp at this
            | mk hw hk => have := congrArg List.length h2; simp at this
            | loud hw hl v h' hv hr => exact rdsOk_mem hr _ hmem hbit
            | defer hw hl hr α2 hv => exact rdsOk_mem hr _ hmem hbit
      rw [read_congr hal] at hvj
      obtain ⟨v', h1, h2⟩ := read_sound c I.sim hvj
      exact wpIn_of_res (Or.inl ⟨v', w, h1, (⟨rfl, rfl⟩ : v' = v' ∧ w = w)⟩) hnd (K := fun u w1 => u = v' ∧ w1 = w) (fun u w1 ⟨e1, e2⟩ => by
        subst e1; subst e2
        exact hK j ρ _ _ (I.quiet T ho hO hD hdN he (v := v) (by rw [← hg]) h2 (notLd (by rw [← hg])) (by rw [← hg])))
    | alloc hw row k hv =>
      rw [wnt _ hw]
      simp only [if_true]
      rw [alloc_congr hal] at hv
      obtain ⟨sv, hex, row', el, h1, h2, h3⟩ := alloc_sound (w := w) c hv
      have hr : (execOp a.eval o).run P w = .ok (.value (mkA w.heap.size k)) { w with heap := w.heap.push (.cells ⟨row'⟩ el) } := by
        rw [hex]; simp only [Sem.run_bind, h3, Result.andThen_ok, Sem.run_pure]
      refine wpIn_of_res (Or.inl ⟨_, _, hr, (⟨rfl, rfl⟩ : _ = _ ∧ _ = _)⟩) hnd (K := fun u w1 => u = _ ∧ w1 = _) (fun u w1 ⟨e1, e2⟩ => ?_)
      subst e1; subst e2
      refine hK j _ _ _ (I.alloc T ho hO hD hdN he hbase (row := some row) (obj := .cells ⟨row'⟩ el) (lim := row'.length) (v := mkA (base + i) k) (by rw [← hg]) (show RO ρ (some row) (.cells ⟨row'⟩ el) row'.length from ⟨row', el, rfl, h1, rfl⟩) ?_ (notLd (by rw [← hg])) (by rw [← hg]))
      have hsame := upd_same ρ (base + i) w.heap.size 0 row'.length
      cases k with
      | none => exact .ptr _ 0 _ 0 hsame
      | some k => exact .slice _ 0 _ _ _ 0 _ hsame (Or.inr ⟨rfl, (h2 k rfl).2⟩) (h2 k rfl).1
    | mk hw hk =>
      rw [wnt _ hw]
      simp only [if_true]
      have hr : (execOp a.eval o).run P w = .ok (.value (.map (some w.heap.size))) { w with heap := w.heap.push (.map #[] 0) } := by
        obtain ⟨dst, op, type, pos, after, guard⟩ := o
        unfold isMk at hk
        split at hk
        · rename_i t heq
          have heq : op = .makeMap t Option.none := heq
          subst heq
          simp only [execOp, Option.map_none, Instr.makeMap, Sem.run_bind, run_newObj, Result.andThen_ok, Sem.run_pure]
        · cases hk
      refine wpIn_of_res (Or.inl ⟨_, _, hr, (⟨rfl, rfl⟩ : _ = _ ∧ _ = _)⟩) hnd (K := fun u w1 => u = _ ∧ w1 = _) (fun u w1 ⟨e1, e2⟩ => ?_)
      subst e1; subst e2
      exact hK j _ _ _ (I.alloc T ho hO hD hdN he hbase (row := Option.none) (obj := .map #[] 0) (lim := 0) (v := .map (some (base + i))) (by rw [← hg]) (show RO ρ Option.none (.map #[] 0) 0 from rfl) (.map _ _ (upd_same _ _ _ _ _)) (notLd (by rw [← hg])) (by rw [← hg]))
    | loud hw hl v h' hv hr =>
      rw [wnt _ hw]
      simp only [if_true]
      have hLd : Ld gs i := by unfold Ld; rw [← hg]
      obtain ⟨hji, hno⟩ := front hLd hl
      obtain ⟨ρ1, s1, L1, hfr, hnx, him, hst⟩ := I.absorb T (Nat.le_of_lt hi) hji hno hmask
      rw [loud_congr hal] at hv
      have c1 : Ctx P eqs ρ1 (seen ops gs D i) a := ⟨fun t u hu => let ⟨u', h1, h2⟩ := hsl t u hu; ⟨u', h1, h2.mono L1⟩, s1.glob, ok.eq, ok.pures, ok.loads⟩
      refine wpIn_of_res (loud_sound ok.names ok.clone hc c1 s1 hv) hnd (fun v' w' ⟨ρ2, k1, k2, k3⟩ => ?_)
      have hh : (gs (i + 1)).h = h' := by rw [← hg]
      have hd : (gs (i + 1)).α.d = (gs j).α.d := by rw [← hg]; exact (putD_d _ _ _).trans (T.still i hji (Nat.le_of_lt hi) hno).2.1
      exact hK (i + 1) ρ2 _ w' (I.after T ho hO hD hdN he hji hno hmask hLd (by rw [← hg]) L1 hfr hnx him hst (hh ▸ k1) (hh ▸ k2) (a1 := a) rfl (by rw [hd]; exact I.defs.mono (L1.trans k2.ext)) (v := v) (by rw [← hg]) k3)
    | defer hw hl hr α2 hv =>
      rw [wnt _ hw]
      simp only [if_true]
      have hLd : Ld gs i := by unfold Ld; rw [← hg]
      obtain ⟨hji, hno⟩ := front hLd hl
      obtain ⟨f, args, e2, hv'⟩ := defer_congr hal hv
      obtain ⟨p, d, e1, hrun, hdr⟩ := defer_run (w := w) c hv'
      have hp : p = .fn f args := by injection e1 with _ e1; injection e1 with e1 _; exact e1.symm
      subst hp
      have hz : ∀ k, Nat.testBit 0 k = true → D k := fun k hk => by simp at hk
      obtain ⟨ρ1, s1, L1, hfr, hnx, him, hst⟩ := I.absorb T (Nat.le_of_lt hi) hji hno hz
      have hab : Ev.absorb 0 (gs i).pend (gs i).h = ((gs i).h, (gs i).pend) := by
        rw [absorb_eq]
        have h1 : (gs i).pend.filter (fun q => Nat.testBit 0 q.i) = [] := by simp
        have h2 : (gs i).pend.filter (fun q => !Nat.testBit 0 q.i) = (gs i).pend := by simp
        rw [h1, h2]; rfl
      have hh : (gs (i + 1)).h = (Ev.absorb 0 (gs i).pend (gs i).h).1 := by rw [hab, ← hg]
      have hpd : (gs (i + 1)).pend = (Ev.absorb 0 (gs i).pend (gs i).h).2 := by rw [hab, ← hg]
      have hd : (gs (i + 1)).α.d = .fn f args :: (gs j).α.d := by
        rw [← hg]; show (putD α2 o.dst _).d = _
        rw [putD_d, e2, (T.still i hji (Nat.le_of_lt hi) hno).2.1]
      have ht : (gs (i + 1)).α.t = (putD (gs i).α o.dst (.tuple #[])).t := by
        rw [← hg, e2]; cases o.dst <;> rfl
      have hron : ro = Option.none := by
        rcases hnd with e | e
        · exact e
        · unfold deferE at hv
          split at hv
          · exact absurd ‹_› (e _)
          · cases hv
      subst hron
      refine ⟨fun _ _ => trivial, ?_⟩
      show Oper.uponIn _ _ _ _ _ _ _ ((execOp a.eval o).run P w)
      rw [hrun, Oper.uponIn_defer]
      refine hK (i + 1) ρ1 _ w (I.after T ho hO hD hdN he hji hno hz hLd hpd L1 hfr hnx him hst (by rw [hh]; exact s1) (by rw [hh]; exact Step.refl _ _ _) (a1 := { a with defers := d :: a.defers }) rfl ?_ ht (.tuple _ _ .nil))
      rw [hd]
      refine DR.mono L1 ?_
      exact hdr _ _ I.defs
  exact hgen _ rfl tr

theorem count_set : ∀ (l : List Bool) (i : Nat), l[i]? = some false → (l.set i true).count false + 1 = l.count false := by
  intro l
  induction l with
  | nil => intro i h; simp at h
  | cons b l ih =>
    intro i h
    cases i with
    | zero => simp at h; subst h; simp
    | succ i =>
      simp at h
      have := ih i h
      rw [List.set_cons_succ, List.count_cons, List.count_cons]
      omega

theorem ready_iff {L : List Bool} {i : Nat} : i ∈ Region.ready .any ⟨ops⟩ ⟨L⟩ ↔ i < ops.length ∧ L[i]? = some false ∧ ∀ o, ops[i]? = some o → ∀ e ∈ o.after.toList, binding e = true → L[e.on]? = some true := by
  unfold Region.ready
  simp only [List.mem_filter, List.mem_range, List.size_toArray, Bool.and_eq_true, Bool.not_eq_true', Array.getD_eq_getD_getElem?, List.getElem?_toArray]
  constructor
  · rintro ⟨h1, h2, h3⟩
    refine ⟨h1, ?_, fun o ho e he hb => ?_⟩
    · cases hL : L[i]? with
      | none => rw [hL] at h2; simp at h2
      | some b => rw [hL] at h2; simp at h2; rw [h2]
    · rw [ho] at h3
      simp only [Option.map_some, Option.getD_some, Array.all_eq_true_iff_forall_mem] at h3
      have := h3 e (by simpa using he)
      rw [binds_any, hb] at this
      cases hL : L[e.on]? with
      | none => rw [hL] at this; simp at this
      | some b => rw [hL] at this; simp at this; rw [this]
  · rintro ⟨h1, h2, h3⟩
    refine ⟨h1, by rw [h2]; rfl, ?_⟩
    rw [List.getElem?_eq_getElem h1]
    simp only [Option.map_some, Option.getD_some, Array.all_eq_true_iff_forall_mem]
    intro e he
    rw [binds_any]
    cases hb : binding e
    · rfl
    · rw [h3 _ (List.getElem?_eq_getElem h1) e (by simpa using he) hb]; rfl

theorem any_sound (ok : Ok P eqs clone) (hc : CallOk P P.globals.size n0 cl) (T : Trace (Env.of P eqs clone) cl ops base N gs) (hbase : h0.next ≤ base) {ro : Option Nat} (hnd : ro = Option.none ∨ noDefL ops = true) {Q : Exit → Act → World → Prop}
    (hQ : ∀ ρ' a' w', St P n0 ρ' N (gs ops.length).α (absorbAll (gs ops.length).pend (gs ops.length).h) a' w' → Step ρ0 h0 w0 ρ' (absorbAll (gs ops.length).pend (gs ops.length).h) w' → Q .normal a' w') :
    ∀ (fuel : Nat) (L : List Bool) (j : Nat) (ρ : Rho) (a : Act) (w : World), L.length = ops.length → L.count false = fuel → Inv P n0 N base ops gs ρ0 h0 w0 (fun k => L[k]? = some true) j ρ a w →
      wpAnyIn (Fr ro) 0 P .any ⟨ops⟩ Q fuel ⟨L⟩ a w := by
  have fin : ∀ (L : List Bool) (j : Nat) (ρ : Rho) (a : Act) (w : World), L.length = ops.length → Inv P n0 N base ops gs ρ0 h0 w0 (fun k => L[k]? = some true) j ρ a w → Region.ready .any ⟨ops⟩ ⟨L⟩ = [] → Q .normal a w := by
    intro L j ρ a w hlen I hr
    have hall : ∀ k, k < ops.length → L[k]? = some true := by
      intro k
      induction k using Nat.strongRecOn with
      | _ k ih =>
        intro hk
        cases hL : L[k]? with
        | none => have := List.getElem?_eq_none_iff.1 hL; omega
        | some b =>
          cases b with
          | true => rfl
          | false =>
            have : k ∈ Region.ready .any ⟨ops⟩ ⟨L⟩ := ready_iff.2 ⟨hk, hL, fun o ho e he hb => by
              have := (regionOk_spec T.ok k o ho).edges e he hb
              exact ih e.on this (by omega)⟩
            rw [hr] at this; cases this
    obtain ⟨ρ1, s1, st1⟩ := I.done T hall
    exact hQ ρ1 a w s1 st1
  intro fuel
  induction fuel with
  | zero =>
    intro L j ρ a w hlen hcnt I
    have hr : Region.ready .any ⟨ops⟩ ⟨L⟩ = [] := by
      rw [List.eq_nil_iff_forall_not_mem]
      intro i hi
      obtain ⟨_, h2, _⟩ := ready_iff.1 hi
      have := count_set L i h2
      omega
    exact ⟨hr, fin L j ρ a w hlen I hr⟩
  | succ fuel ih =>
    intro L j ρ a w hlen hcnt I
    refine ⟨fin L j ρ a w hlen I, fun i hi => ?_⟩
    obtain ⟨h1, h2, h3⟩ := ready_iff.1 hi
    have ho : ops[i]? = some ops[i] := List.getElem?_eq_getElem h1
    refine I.fire ok hc T hbase ho (by rw [h2]; simp) (h3 _ ho) (hnd.imp id fun e => noDefL_mem e _ (List.mem_of_getElem? ho)) fun j' ρ' a' w' I' => ?_
    have hset : (⟨L⟩ : Array Bool).setIfInBounds i true = ⟨L.set i true⟩ := by simp
    rw [hset]
    refine ih (L.set i true) j' ρ' a' w' (by simp [hlen]) (by have := count_set L i h2; omega) ?_
    have : (fun k => (L.set i true)[k]? = some true) = fun k => (L[k]? = some true ∨ k = i) := by
      funext k
      apply propext
      by_cases e : k = i
      · subst e; simp [hlen, h1]
      · simp [List.getElem?_set, Ne.symm e, e]
    rw [this]; exact I'

theorem draw_any (ok : Ok P eqs clone) {cl : CallT} (hc : CallOk P P.globals.size n0 cl) {ro : Option Nat} {N : Nat} {ops : List Oper} {α : A} {h : H} {α' : A} {h' : H} (hnd : ro = none ∨ noDefL ops = true)
    (hl : regD (Env.of P eqs clone) cl N ops α h = some (α', h')) {ρ : Rho} {a : Act} {w : World} (s : St P n0 ρ N α h a w) {Q : Exit → Act → World → Prop} (hQ : Lands P n0 N ρ h w .normal α' h' Q) :
    wpAnyIn (Fr ro) 0 P .any ⟨ops⟩ Q (⟨ops⟩ : Array Oper).size (Array.replicate (⟨ops⟩ : Array Oper).size false) a { w with drawn := w.drawn + 1 } := by
  have hl : bi (regionOk ops) (om (drawE (Env.of P eqs clone) cl N ops h.next ops 0 (closures ops []) ⟨α, ⟨h.next + ops.length, h.bl, h.mem⟩, [], [], []⟩) fun g => (g.α, absorbAll g.pend g.h)) none = some (α', h') := hl
  rw [bi_some_none, om_some] at hl
  obtain ⟨hreg, g', hdr, hl⟩ := hl
  injection hl with e1 e2; subst e1; subst e2
  obtain ⟨gs, k1, k2, k3⟩ := draw_trace ops 0 _ _ _ hdr
  simp only [Nat.zero_add] at k2 k3
  have T : Trace (Env.of P eqs clone) cl ops h.next N gs := ⟨hreg, k3, by rw [k1], by rw [k1]⟩
  have hrep : Array.replicate (⟨ops⟩ : Array Oper).size false = ⟨List.replicate ops.length false⟩ := by simp
  rw [hrep]
  refine any_sound ok hc T (ρ0 := ρ) (h0 := h) (w0 := w) (Nat.le_refl _) hnd (fun ρ' a' w' s' st' => ?_) _ _ 0 ρ a _ (by simp) (by simp) ?_
  · rw [k2] at s' st'
    exact hQ ρ' a' w' s' st'
  · have hno : ∀ k : Nat, ¬ (List.replicate ops.length false)[k]? = some true := by
      intro k hk
      rw [List.getElem?_replicate] at hk
      split at hk <;> simp at hk
    have hg0 : (gs 0).h = ⟨h.next + ops.length, h.bl, h.mem⟩ := by rw [k1]
    have hα : (gs 0).α = α := by rw [k1]
    refine ⟨fun k hk => absurd hk (hno k), fun k o hk => absurd hk (hno k), Nat.zero_le _, fun k _ _ => ⟨fun hk => absurd hk (hno k), fun hk => absurd hk (Nat.not_lt_zero _)⟩, Or.inl rfl, ?_, ?_, ?_, fun q _ hk => absurd hk (hno _), fun q q' _ _ hk => absurd hk (hno _), fun p hp _ => ?_, s.size, fun k o t v hk => absurd hk (hno k), fun t v _ hv => ?_, ?_⟩
    · rw [hg0]; exact (s.sim.up ops.length).drawn _
    · rw [hg0]
      exact ⟨Le.refl ρ, fun i p hi => Or.inl hi, Nat.le_add_right _ _, rfl, rfl, rfl, Nat.le_refl _, fun _ _ _ => rfl, fun B hB => Or.inr hB⟩
    · rw [hg0]; exact Nat.le_refl _
    · cases hr : ρ (h.next + p) with
      | none => rfl
      | some x => have := s.sim.born _ x hr; omega
    · rw [hα] at hv; exact s.slot t v hv
    · rw [hα]; exact s.defs
theorem draw_ok (ok : Ok P eqs clone) : DrawOk P n0 eqs clone := by
  intro cl hc ro N id ops α h α' h' hnd hl ρ a w s Q hQ
  obtain ⟨ops⟩ := ops
  exact wpIn_region_any ok.mixed (draw_any ok hc hnd hl s hQ)
end
end Go.Ev
