/- A part of an evaluator of runs, and that it is right. -/
import Derived.Test.YtcfneeeieofkeaaGreatDoorEvE
set_option linter.unusedVariables false
set_option linter.unusedSimpArgs false
set_option linter.unusedSectionVars false
namespace Go.Ev
variable [Den]

inductive DR (ρ : Rho) : List (Nat × List Value) → List Deferred → Prop
  | nil : DR ρ [] []
  | cons (f : Nat) (args dargs cap : List Value) (l : List (Nat × List Value)) (m : List Deferred) (h : VRs ρ args (dargs ++ cap)) (k : DR ρ l m) :
      DR ρ ((f, args) :: l) ({ target := .fn (.func f) ⟨cap⟩, args := ⟨dargs⟩ } :: m)
theorem DR.mono {ρ ρ' : Rho} (L : Le ρ ρ') {l m} (h : DR ρ l m) : DR ρ' l m := by
  induction h with
  | nil => exact .nil
  | cons f args dargs cap l m h k ih => exact .cons _ _ _ _ _ _ (h.mono L) ih

structure St (P : Program) (n0 : Nat) (ρ : Rho) (N : Nat) (α : A) (h : H) (a : Act) (w : World) : Prop where
  sim : Sim P.globals.size n0 ρ h w
  size : a.tmps.size = N
  slot : ∀ t v, α.t.get t = some v → ∃ v', a.tmps[t]? = some v' ∧ VR ρ v v'
  defs : DR ρ α.d a.defers

/-- what is asked of the program beside -/
structure Ok (P : Program) (eqs : List Nat) (clone : Nat) : Prop where
  eq : ∀ t, t ∈ eqs → EqOk P t
  names : NoName P
  clone : CloneOk P clone
  mixed : P.follows .mixedOrders = true
  calls : ∀ c ∈ DenD.calls, CFOk P c

section
variable {P : Program} {eqs : List Nat} {clone : Nat} {n0 N : Nat} {ρ : Rho} {h : H} {α : A} {a : Act} {w w' : World}

theorem St.ctx (ok : Ok P eqs clone) (s : St P n0 ρ N α h a w) : Ctx P eqs ρ α a := ⟨s.slot, s.sim.glob, ok.eq⟩

theorem St.put {ρ' : Rho} {h' : H} (s : St P n0 ρ N α h a w) (s' : Sim P.globals.size n0 ρ' h' w') (L : Le ρ ρ') {d : Option Tmp} (hd : ∀ t, d = some t → t < N) {v v' : Value} (hv : VR ρ' v v') :
    St P n0 ρ' N (putD α d v) h' (a.put d v') w' := by
  cases d with
  | none => exact ⟨s', s.size, fun t u hu => let ⟨u', h1, h2⟩ := s.slot t u hu; ⟨u', h1, h2.mono L⟩, s.defs.mono L⟩
  | some d =>
    refine ⟨s', by simp [Act.put, s.size], fun t u hu => ?_, s.defs.mono L⟩
    have hu : (α.t.set d v).get t = some u := hu
    rcases T.get_set hu with ⟨rfl, rfl⟩ | ⟨hne, hu⟩
    · exact ⟨v', by simp [Act.put, s.size, hd _ rfl], hv⟩
    · obtain ⟨u', h1, h2⟩ := s.slot t u hu
      exact ⟨u', by simp only [Act.put]; rw [Array.getElem?_setIfInBounds_ne (Ne.symm hne)]; exact h1, h2.mono L⟩

theorem stepK_sound (ok : Ok P eqs clone) {cl : CallT} (hc : CallOk P P.globals.size n0 cl) (s : St P n0 ρ N α h a w) {o : Oper} {α' : A} {h' : H} {k : Nat} (hd : ∀ t, o.dst = some t → t < N)
    (hl : stepK (Env.of P eqs clone) cl o α h k = some (α', h')) {next : Act → World → Prop} {Q : Exit → Act → World → Prop}
    (hK : ∀ ρ' a' w', St P n0 ρ' N α' h' a' w' → Step ρ h w ρ' h' w' → next a' w') : o.wp P a w next Q := by
  have c := s.ctx ok
  rcases k with _ | _ | _ | _ | k
  · have hl : om (pureE o.op (Env.of P eqs clone) α) (fun v => (putD α o.dst v, h)) = some (α', h') := hl
    rw [om_some] at hl
    obtain ⟨v, hv, hl⟩ := hl
    injection hl with e1 e2; subst e1; subst e2
    obtain ⟨v', h1, h2⟩ := pure_sound (w := w) c hv
    exact wp_of_res (Or.inl ⟨v', w, h1, (⟨rfl, rfl⟩ : v' = v' ∧ w = w)⟩) (K := fun u w1 => u = v' ∧ w1 = w) (fun u w1 ⟨e1, e2⟩ => by subst e1; subst e2; exact hK ρ _ _ (s.put s.sim (Le.refl _) hd h2) (Step.refl _ _ _))
  · have hl : om (readE o.op (Env.of P eqs clone) α h) (fun v => (putD α o.dst v, h)) = some (α', h') := hl
    rw [om_some] at hl
    obtain ⟨v, hv, hl⟩ := hl
    injection hl with e1 e2; subst e1; subst e2
    obtain ⟨v', h1, h2⟩ := read_sound c s.sim hv
    exact wp_of_res (Or.inl ⟨v', w, h1, (⟨rfl, rfl⟩ : v' = v' ∧ w = w)⟩) (K := fun u w1 => u = v' ∧ w1 = w) (fun u w1 ⟨e1, e2⟩ => by subst e1; subst e2; exact hK ρ _ _ (s.put s.sim (Le.refl _) hd h2) (Step.refl _ _ _))
  · have hl : om (allocE o.op (Env.of P eqs clone) α) (fun p => (putD α o.dst (mkA h.next p.2), newCells h p.1)) = some (α', h') := hl
    rw [om_some] at hl
    obtain ⟨⟨row, n⟩, hv, hl⟩ := hl
    injection hl with e1 e2; subst e1; subst e2
    obtain ⟨sv, he, row', el, h1, h2, h3⟩ := alloc_sound (w := w) c hv
    obtain ⟨k1, k2⟩ := new_cells s.sim h1 ⟨row'⟩ (fun i v hv => by simpa using hv) el
    have hsame := upd_same ρ h.next w.heap.size 0 (⟨row'⟩ : Array Value).size
    have hr : (execOp a.eval o).run P w = .ok (.value (mkA w.heap.size n)) { w with heap := w.heap.push (.cells ⟨row'⟩ el) } := by
      rw [he]; simp only [Sem.run_bind, h3, Result.andThen_ok, Sem.run_pure]
    refine wp_of_res (Or.inl ⟨_, _, hr, (⟨rfl, rfl⟩ : _ = _ ∧ _ = _)⟩) (K := fun u w1 => u = _ ∧ w1 = _) (fun u w1 ⟨e1, e2⟩ => ?_)
    subst e1; subst e2
    refine hK _ _ _ (s.put k1 k2.ext hd ?_) k2
    cases n with
    | none => exact .ptr _ 0 _ 0 hsame
    | some k => exact .slice _ 0 _ _ _ 0 _ hsame (Or.inr ⟨rfl, h2 k rfl⟩) (Nat.le_refl _)
  · have hl : om (loudE o.op (Env.of P eqs clone) cl α h) (fun p => (putD α o.dst p.1, p.2)) = some (α', h') := hl
    rw [om_some] at hl
    obtain ⟨⟨v, h2⟩, hv, hl⟩ := hl
    injection hl with e1 e2; subst e1; subst e2
    exact wp_of_res (loud_sound ok.names ok.clone hc c s.sim hv) (fun v' w' ⟨ρ', k1, k2, k3⟩ => hK ρ' _ _ (s.put k1 k2.ext hd k3) k2)
  · have hl : om (deferE o.op (Env.of P eqs clone) α) (fun α => (putD α o.dst (.tuple #[]), h)) = some (α', h') := hl
    rw [om_some] at hl
    obtain ⟨α2, hv, hl⟩ := hl
    injection hl with e1 e2; subst e1; subst e2
    unfold deferE at hv
    split at hv
    · rename_i cc hop
      split at hv
      · rename_i f hcal
        rw [ob_some] at hv
        obtain ⟨args, hargs0, hv⟩ := hv
        rw [ob_some] at hv
        obtain ⟨fv, hf0, hv⟩ := hv
        have hargs := c.opvs hargs0
        have hf := c.opv hf0
        clear hargs0 hf0
        split at hv
        · rename_i g fa fb
          injection hv with hv; subst hv
          have hka : (cc.args.map a.eval) = ⟨cc.args.toList.map a.eval⟩ := by apply Array.ext'; simp
          generalize hfe : a.eval f = fe at hf
          cases hf with
          | func _ _ ys _ ws hfa hfb =>
            have hr : (execOp a.eval o).run P w = .ok (.defer { target := .fn (.func g) ⟨ws⟩, args := ⟨ys ++ cc.args.toList.map a.eval⟩ }) w := by
              simp only [execOp, hop, resolve, hcal, hka, hfe, Deferred.ofValue, Sem.run_bind, Sem.run_pure, Result.andThen_ok]
              simp
            unfold Oper.wp
            rw [hr]
            simp only [Oper.upon]
            refine hK ρ _ _ ?_ (Step.refl _ _ _)
            have s2 : St P n0 ρ N ⟨α.t, (g, fa ++ args ++ fb) :: α.d⟩ h { a with defers := { target := .fn (.func g) ⟨ws⟩, args := ⟨ys ++ cc.args.toList.map a.eval⟩ } :: a.defers } w :=
              ⟨s.sim, s.size, s.slot, .cons _ _ _ _ _ _ ((hfa.append hargs).append hfb) s.defs⟩
            exact s2.put s.sim (Le.refl _) hd (.tuple _ _ .nil)
        · cases hv
      · cases hv
    · cases hv

theorem wanted_sound {ops : List Oper} {o : Oper} {b : Bool} (hT : ∀ t v, α.t.get t = some v → ∃ v', a.tmps[t]? = some v' ∧ VR ρ v v') (hl : wantedE ops α o = some b) : Region.wanted o (yielded ⟨ops⟩ a.tmps) = b := by
  unfold wantedE at hl
  unfold Region.wanted
  cases hg : o.guard with
  | none => rw [hg] at hl; injection hl with hl
  | some g =>
    obtain ⟨j, want⟩ := g
    rw [hg] at hl
    have hl : ob ops[j]? (fun p => ob p.dst fun t => ob (α.t.get t) fun v => match v with | .bool b => some (beqB b want) | .float _ _ => none | _ => some false) = some b := hl
    rw [ob_some] at hl
    obtain ⟨p, hp, hl⟩ := hl
    rw [ob_some] at hl
    obtain ⟨t, ht, hl⟩ := hl
    rw [ob_some] at hl
    obtain ⟨v, hv, hl⟩ := hl
    obtain ⟨v', h1, h2⟩ := hT t v hv
    have hy : yielded ⟨ops⟩ a.tmps j = (match v' with | .bool b => some b | _ => none) := by
      unfold yielded
      have : (⟨ops⟩ : Array Oper)[j]? = some p := by simpa using hp
      rw [this]
      simp only [Option.bind_some, ht, h1]
      cases v' <;> rfl
    simp only [hy]
    split at hl
    · injection hl with hl; cases h2; rw [← hl, beqB_eq]; rename_i b2; cases b2 <;> cases want <;> rfl
    · cases hl
    · rename_i hn hn2
      injection hl with hl
      rw [← hl]
      cases h2 <;> first | rfl | exact absurd rfl (hn _) | exact absurd rfl (hn2 _ _)

theorem dst_ok {d : Option Tmp} (h : Option.casesOn (motive := fun _ => Bool) d true (fun d => Nat.blt d N) = true) : ∀ t, d = some t → t < N := by
  intro t ht
  subst ht
  have : Nat.blt t N = true := h
  exact Nat.le_of_ble_eq_true this

theorem seqE_cons (E : Env) (cl : CallT) (N : Nat) (ops : List Oper) (o : Oper) (l : List Oper) (α : A) (h : H) : seqE E cl N ops (o :: l) α h = ob (stepE E cl N ops o α h) fun p => seqE E cl N ops l p.1 p.2 := rfl

theorem seq_sound (ok : Ok P eqs clone) {cl : CallT} (hc : CallOk P P.globals.size n0 cl) (ops : List Oper) {Q : Exit → Act → World → Prop} {α' : A} {h' : H} : ∀ (l : List Oper) (i : Nat) (α : A) (h : H) (ρ : Rho) (a : Act) (w : World),
    ops.drop i = l → St P n0 ρ N α h a w → seqE (Env.of P eqs clone) cl N ops l α h = some (α', h') →
    (∀ ρ' a' w', St P n0 ρ' N α' h' a' w' → Step ρ h w ρ' h' w' → Q .normal a' w') → wpOps P ⟨ops⟩ Q (List.range' i l.length) a w := by
  intro l
  induction l with
  | nil =>
    intro i α h ρ a w _ s hl hQ
    injection hl with hl; injection hl with e1 e2; subst e1; subst e2
    exact hQ ρ a w s (Step.refl _ _ _)
  | cons o l ih =>
    intro i α h ρ a w hdrop s hl hQ
    rw [seqE_cons, ob_some] at hl
    obtain ⟨⟨α1, h1⟩, hst, hl⟩ := hl
    have hoi : ops[i]? = some o := by
      have := congrArg (fun q => q[0]?) hdrop
      simpa using this
    have hdrop' : ops.drop (i + 1) = l := by
      rw [← List.drop_drop, hdrop]; rfl
    unfold stepE at hst
    rw [bi_some_none, ob_some] at hst
    obtain ⟨hd, b, hb, hst⟩ := hst
    have hd := dst_ok hd
    have hw := wanted_sound s.slot hb
    have hoi' : (⟨ops⟩ : Array Oper)[i]? = some o := by simpa using hoi
    rw [List.length_cons, List.range'_succ]
    simp only [wpOps, hoi', hw]
    cases b
    · rw [bi_false] at hst
      injection hst with hst; injection hst with e1 e2; subst e1; subst e2
      simp only [Bool.false_eq_true, if_false]
      exact ih (i + 1) _ _ ρ _ w hdrop' (s.put s.sim (Le.refl _) hd (.tuple _ _ .nil)) hl hQ
    · rw [bi_true] at hst
      simp only [if_true]
      left
      refine stepK_sound ok hc s hd hst fun ρ' a' w' s' st' => ?_
      exact ih (i + 1) _ _ ρ' a' w' hdrop' s' hl fun ρ'' a'' w'' s'' st'' => hQ ρ'' a'' w'' s'' (st'.trans st'')

theorem region_seq (ok : Ok P eqs clone) {cl : CallT} (hc : CallOk P P.globals.size n0 cl) {id : Nat} {ops : Array Oper} {Q : Exit → Act → World → Prop} {α' : A} {h' : H} (s : St P n0 ρ N α h a w)
    (hl : seqE (Env.of P eqs clone) cl N ops.toList ops.toList α h = some (α', h')) (hQ : ∀ ρ' a' w', St P n0 ρ' N α' h' a' w' → Step ρ h w ρ' h' w' → Q .normal a' w') : (Code.region id ops false).wp P Q a w := by
  refine wp_region ?_
  have := seq_sound ok hc ops.toList ops.toList 0 α h ρ a w rfl s hl hQ
  rw [List.range_eq_range']
  simpa using this
end
end Go.Ev
