/- A part of an evaluator of runs, and that it is right. -/
import Derived.Test.YtbkojaiecgdodaaDoorEvQ
set_option linter.unusedVariables false
set_option linter.unusedSimpArgs false
set_option linter.unusedSectionVars false
namespace Go.Ev
variable [Den]
section
variable {P : Program} {eqs : List Nat} {clone : Sp} {n0 N : Nat} {ρ ρ' : Rho} {h : H} {α : A} {a : Act} {w w' : World}

/-- calls that panic -/
def PanOk (P : Program) (ng n0 : Nat) (pn : CallT) : Prop :=
  ∀ f args h v h', pn (.func f) args h = some (v, h') → (∃ fn b, P.funcs[f]? = some fn ∧ fn.body = some b) ∧ ∀ (ρ : Rho) (w : World) (args' : List Value), Sim ng n0 ρ h w → VRs ρ args args' →
    Calls P f ⟨args'⟩ w fun e w' => ∃ v', e = .panicked [{ v := v', recovered := false }] ∧ Post ng n0 ρ h w h' v v' w'
def PanLands (P : Program) (n0 N : Nat) (ρ : Rho) (h : H) (w : World) (v : Value) (α' : A) (h' : H) (Q : Exit → Act → World → Prop) : Prop :=
  ∀ ρ' a' w' v', St P n0 ρ' N α' h' a' w' → Step ρ h w ρ' h' w' → VR ρ' v v' → Q (.panic [{ v := v', recovered := false }]) a' w'

theorem panK_congr {E : Env} {pn : CallT} {o : Oper} {β : A} (hx : Alike E α β o.op) : panK E pn o α h = panK E pn o β h := by
  unfold Alike at hx
  obtain ⟨dst, op, type, pos, after, guard⟩ := o
  simp only at hx
  cases op <;> simp only [Op.operands] at hx <;> simp only [panK] <;> first | rfl | skip
  case panic x => rw [hx x (by simp)]
  case call k =>
    obtain ⟨cal, args, ts⟩ := k
    cases cal with
    | value f =>
      simp only
      rw [opvs_congr fun z hz => hx z (by simp [Call.operands]; exact Or.inr (by simpa using hz)), hx f (by simp [Call.operands])]
    | _ => rfl

theorem panK_sound (ok : Ok P eqs clone) {pn : CallT} (hp : PanOk P P.globals.size n0 pn) (c : Ctx P eqs ρ α a) (s : Sim P.globals.size n0 ρ h w) {o : Oper} {v : Value} {h' : H} (hl : panK (Env.of P eqs clone) pn o α h = some (v, h')) {next : Act → World → Prop} {Q : Exit → Act → World → Prop}
    (hQ : ∀ ρ' v' w', Sim P.globals.size n0 ρ' h' w' → Step ρ h w ρ' h' w' → VR ρ' v v' → Q (.panic [{ v := v', recovered := false }]) a w') : o.wpIn (Fr none) 0 P a w next Q := by
  refine ⟨fun _ _ => trivial, ?_⟩
  show Oper.uponIn _ _ _ _ _ _ _ ((execOp a.eval o).run P w)
  unfold panK at hl
  split at hl
  · rename_i x hop
    rw [ob_some] at hl
    obtain ⟨u, hu, hl⟩ := hl
    have hu' := c.opv hu
    split at hl
    · rename_i t u0
      injection hl with hl; injection hl with e1 e2; subst e1; subst e2
      generalize hex : a.eval x = ex at hu'
      cases hu' with
      | iface _ _ w0 hw0 =>
        have hr : (execOp a.eval o).run P w = .halt (.panic (.iface t w0)) w := by
          simp only [execOp, hop, hex, Instr.panic]
          rfl
        rw [hr, Oper.uponIn_panic]
        exact hQ ρ _ w s (Step.refl _ _ _) (.iface _ _ _ hw0)
    · cases hl
  · rename_i k hop
    obtain ⟨cal, kargs, kts⟩ := k
    split at hl
    · rename_i f hcal
      simp only at hcal hl
      subst hcal
      rw [ob_some] at hl
      obtain ⟨args, hargs0, hl⟩ := hl
      rw [ob_some] at hl
      obtain ⟨fv, hf0, hl⟩ := hl
      have hargs := c.opvs hargs0
      have hf := c.opv hf0
      clear hargs0 hf0
      split at hl
      · rename_i g fa fb
        have hka : (kargs.map a.eval) = ⟨kargs.toList.map a.eval⟩ := by apply Array.ext'; simp
        generalize hfe : a.eval f = fe at hf
        generalize kargs.toList.map a.eval = vs at hargs hka
        cases hf with
        | func _ _ ys _ ws hfa hfb =>
          obtain ⟨⟨fn, b, hf, hb⟩, hcalls⟩ := hp _ _ _ _ _ hl
          have hall := (hfa.append hargs).append hfb
          have he : execOp a.eval o = callFunc g ⟨ys ++ vs ++ ws⟩ := by
            simp only [execOp, hop, resolve, hka, hfe, Deferred.ofValue]
            simp [invoke]
          rw [he, callFunc_enter ok.names hf hb, Oper.uponIn_enter]
          refine ⟨(fun e => by cases e), (callsIn_wide (n := 0)).2 ((hcalls ρ w _ s hall).mono fun e w' ⟨v', he, ρ', s', st', hv⟩ => ?_)⟩
          subst he
          exact hQ ρ' v' w' s' st' hv
      · cases hl
    · cases hl
  · cases hl

-- in order
theorem seq_pre (ok : Ok P eqs clone) {cl : CallT} (hc : CallOk P P.globals.size n0 cl) (ops : List Oper) {rest : List Oper} {Q : Exit → Act → World → Prop} {α' : A} {h' : H} : ∀ (l : List Oper) (i : Nat) (α : A) (h : H) (ρ : Rho) (a : Act) (w : World),
    ops.drop i = l ++ rest → St P n0 ρ N α h a w → seqE (Env.of P eqs clone) cl N ops l α h = some (α', h') →
    (∀ ρ' a' w', St P n0 ρ' N α' h' a' w' → Step ρ h w ρ' h' w' → wpOpsIn (Fr none) 0 P ⟨ops⟩ Q (List.range' (i + l.length) rest.length) a' w') → wpOpsIn (Fr none) 0 P ⟨ops⟩ Q (List.range' i (l.length + rest.length)) a w := by
  intro l
  induction l with
  | nil =>
    intro i α h ρ a w _ s hl hQ
    injection hl with hl; injection hl with e1 e2; subst e1; subst e2
    simpa using hQ ρ a w s (Step.refl _ _ _)
  | cons o l ih =>
    intro i α h ρ a w hdrop s hl hQ
    rw [seqE_cons, ob_some] at hl
    obtain ⟨⟨α1, h1⟩, hst, hl⟩ := hl
    have hoi : ops[i]? = some o := by
      have := congrArg (fun q => q[0]?) hdrop
      simpa using this
    have hdrop' : ops.drop (i + 1) = l ++ rest := by
      rw [← List.drop_drop, hdrop]; rfl
    unfold stepE at hst
    rw [bi_some_none, ob_some] at hst
    obtain ⟨hd, b, hb, hst⟩ := hst
    have hd := dst_ok hd
    have hw := wanted_sound s.slot hb
    have hoi' : (⟨ops⟩ : Array Oper)[i]? = some o := by simpa using hoi
    rw [List.length_cons, show l.length + 1 + rest.length = (l.length + rest.length) + 1 by omega, List.range'_succ]
    simp only [wpOpsIn, hoi', hw]
    have hQ' : ∀ (ρ1 : Rho) (a1 : Act) (w1 : World), Step ρ h w ρ1 h1 w1 → (∀ ρ' a' w', St P n0 ρ' N α' h' a' w' → Step ρ1 h1 w1 ρ' h' w' → wpOpsIn (Fr none) 0 P ⟨ops⟩ Q (List.range' (i + 1 + l.length) rest.length) a' w') := fun ρ1 a1 w1 st1 ρ' a' w' s' st' => by
      have := hQ ρ' a' w' s' (st1.trans st')
      have e : i + (l.length + 1) = i + 1 + l.length := by omega
      rw [List.length_cons, e] at this
      exact this
    cases b
    · rw [bi_false] at hst
      injection hst with hst; injection hst with e1 e2; subst e1; subst e2
      simp only [Bool.false_eq_true, if_false]
      exact ⟨fun _ _ => trivial, ih (i + 1) _ _ ρ _ w hdrop' (s.put s.sim (Le.refl _) hd (.tuple _ _ .nil)) hl (hQ' ρ a w (Step.refl _ _ _))⟩
    · rw [bi_true] at hst
      simp only [if_true]
      refine stepK_sound ok hc s (Or.inl rfl) hd hst fun ρ1 a1 w1 s1 st1 => ?_
      exact ih (i + 1) _ _ ρ1 a1 w1 hdrop' s1 hl (hQ' ρ1 a1 w1 st1)

theorem panS_sound (ok : Ok P eqs clone) {cl pn : CallT} (hc : CallOk P P.globals.size n0 cl) (hp : PanOk P P.globals.size n0 pn) {id : Nat} {ops : List Oper} {i : Nat} {Q : Exit → Act → World → Prop} {v : Value} {α' : A} {h' : H} (s : St P n0 ρ N α h a w)
    (hl : panS (Env.of P eqs clone) cl pn N ops i α h = some (v, α', h')) (hQ : PanLands P n0 N ρ h w v α' h' Q) : (Code.region id ⟨ops⟩ false).wpIn (Fr none) 0 P Q a w := by
  unfold panS at hl
  rw [ob_some] at hl
  obtain ⟨o, ho, hl⟩ := hl
  rw [ob_some] at hl
  obtain ⟨⟨α1, h1⟩, hseq, hl⟩ := hl
  rw [ob_some] at hl
  obtain ⟨b, hb, hl⟩ := hl
  rw [bi_some_none, om_some] at hl
  obtain ⟨hbt, ⟨u, h2⟩, hpk, hl⟩ := hl
  subst hbt
  injection hl with e1 e2; injection e2 with e2 e3; subst e1; subst e2; subst e3
  have hi : i < ops.length := (List.getElem?_eq_some_iff.1 ho).1
  refine wpIn_region ?_
  have hd : ops.drop i = o :: ops.drop (i + 1) := by
    have e := List.drop_eq_getElem_cons hi
    have : ops[i] = o := (List.getElem?_eq_some_iff.1 ho).2
    rw [e, this]
  have := seq_pre (Q := Q) (rest := ops.drop i) ok hc ops (ops.take i) 0 α h ρ a w (by simp) s hseq (fun ρ1 a1 w1 s1 st1 => by
    have hlen : (ops.take i).length = i := by simp; omega
    rw [hlen, hd, List.length_cons, List.range'_succ]
    have hoi' : (⟨ops⟩ : Array Oper)[0 + i]? = some o := by simpa using ho
    have hw := wanted_sound s1.slot hb
    simp only [wpOpsIn, hoi', hw, if_true]
    exact panK_sound ok hp (s1.ctx ok) s1.sim hpk fun ρ2 v' w2 s2 st2 hv => hQ ρ2 a1 w2 v' ⟨s2, s1.size, fun t x hx => let ⟨x', k1, k2⟩ := s1.slot t x hx; ⟨x', k1, k2.mono st2.ext⟩, s1.defs.mono st2.ext⟩ (st1.trans st2) hv)
  rw [List.range_eq_range']
  have hlen : (ops.take i).length + (ops.drop i).length = ops.length := by simp; omega
  rw [hlen] at this
  simpa using this

-- in any order
theorem delDst_get : ∀ {l : List Oper} {t : T Value} {j : Nat} {v : Value}, (delDst l t).get j = some v → (∀ o ∈ l, o.dst ≠ some j) ∧ t.get j = some v := by
  intro l
  induction l with
  | nil => intro t j v h; exact ⟨by simp, h⟩
  | cons o l ih =>
    intro t j v h
    have h : (Option.casesOn (motive := fun _ => T Value) o.dst (delDst l t) fun d => T.del (delDst l t) d).get j = some v := h
    cases hd : o.dst with
    | none =>
      rw [hd] at h
      obtain ⟨h1, h2⟩ := ih h
      exact ⟨fun p hp => by
        rcases List.mem_cons.1 hp with rfl | hp
        · rw [hd]; simp
        · exact h1 p hp, h2⟩
    | some d =>
      rw [hd] at h
      obtain ⟨h0, h⟩ := T.get_del h
      obtain ⟨h1, h2⟩ := ih h
      exact ⟨fun p hp => by
        rcases List.mem_cons.1 hp with rfl | hp
        · rw [hd]; exact fun e => h0 (by injection e with e; exact e.symm)
        · exact h1 p hp, h2⟩

theorem take_get {ops : List Oper} {i k : Nat} (hk : k < i) : (ops.take i)[k]? = ops[k]? := List.getElem?_take_of_lt hk
theorem wanted_take {ops : List Oper} {i k : Nat} {o : Oper} (hO : OpOk (ops.take i) k o) (tm : Array Value) : Region.wanted o (yielded ⟨ops.take i⟩ tm) = Region.wanted o (yielded ⟨ops⟩ tm) := by
  unfold Region.wanted
  cases hg : o.guard with
  | none => rfl
  | some g =>
    obtain ⟨p, t, hp, _⟩ := hO.grd g hg
    have hlt : g.1 < i := by
      have := (List.getElem?_eq_some_iff.1 hp).1
      simp at this; omega
    have : yielded ⟨ops.take i⟩ tm g.1 = yielded ⟨ops⟩ tm g.1 := by
      unfold yielded
      have : (⟨ops.take i⟩ : Array Oper)[g.1]? = (⟨ops⟩ : Array Oper)[g.1]? := by
        simpa using take_get hlt
      rw [this]
    simp only [this]
theorem laterOk_spec {i : Nat} : ∀ {l : List Nat} {k : Nat}, laterOk i k l = true → ∀ (j m : Nat), l[j]? = some m → i < k + j → Nat.testBit m i = true := by
  intro l
  induction l with
  | nil => intro k _ j m h; simp at h
  | cons b l ih =>
    intro k h j m hj hi
    have h : bi (Nat.ble k i) (laterOk i (k + 1) l) (bi (Nat.testBit b i) (laterOk i (k + 1) l) false) = true := h
    have hrest : laterOk i (k + 1) l = true := by
      rw [bi_eq] at h
      split at h
      · exact h
      · rw [bi_tf] at h; exact h.2
    cases j with
    | zero =>
      simp at hj; subst hj
      rw [bi_eq] at h
      split at h
      · rename_i hle; have := Nat.le_of_ble_eq_true hle; omega
      · rw [bi_tf] at h; exact h.1
    | succ j => exact ih hrest j m (by simpa using hj) (by omega)

theorem Inv.slotsE {E : Env} {cl : CallT} {ops : List Oper} {base j : Nat} {gs : Nat → G} {ρ0 : Rho} {h0 : H} {w0 : World} {D : Nat → Prop} (T : Trace E cl ops base N gs) (I : Inv P n0 N base ops gs ρ0 h0 w0 D j ρ a w) :
    ∀ t v, (seen ops gs D ops.length).t.get t = some v → ∃ v', a.tmps[t]? = some v' ∧ VR ρ v v' := by
  intro t v ht
  obtain ⟨hb, ht⟩ := delL_get ht
  have hb : ∀ k o, ops[k]? = some o → o.dst = some t → (k < ops.length ↔ D k) := by
    intro k o ho hd
    by_cases c : (k < ops.length ↔ D k)
    · exact c
    · exact absurd (mem_bads.2 ⟨k, c, o, ho, hd⟩) hb
  rcases T.lex ops.length (Nat.le_refl _) t v ht with ⟨k, h1, o, ho, hd, hv⟩ | ⟨h1, h2⟩
  · exact I.slot1 k o t v ((hb k o ho hd).1 h1) ho hd hv
  · refine I.slot0 t v (fun k o hk ho hd => ?_) h2
    exact h1 k ((hb k o ho hd).2 hk) o ho hd

theorem panD_sound (ok : Ok P eqs clone) {cl pn : CallT} (hc : CallOk P P.globals.size n0 cl) (hp : PanOk P P.globals.size n0 pn) {id : Nat} {ops : List Oper} {i : Nat} {Q : Exit → Act → World → Prop} {v : Value} {α' : A} {h' : H} (s : St P n0 ρ N α h a w)
    (hl : panD (Env.of P eqs clone) cl pn N ops i α h = some (v, α', h')) (hQ : PanLands P n0 N ρ h w v α' h' Q) : (Code.region id ⟨ops⟩ true).wpIn (Fr none) 0 P Q a w := by
  unfold panD at hl
  rw [ob_some] at hl
  obtain ⟨o, ho, hl⟩ := hl
  rw [ob_some] at hl
  obtain ⟨m, hm, hl⟩ := hl
  rw [bi_some_none, bi_some_none, bi_some_none, ob_some] at hl
  obtain ⟨hreg, hop, hlat, g, hdr, hl⟩ := hl
  rw [ob_some] at hl
  obtain ⟨b, hb, hl⟩ := hl
  rw [bi_some_none, bi_some_none, om_some] at hl
  obtain ⟨hbt, hlast, ⟨u, h2⟩, hpk, hl⟩ := hl
  subst hbt
  injection hl with e1 e2; injection e2 with e2 e3; subst e1; subst e2; subst e3
  have hi : i < ops.length := (List.getElem?_eq_some_iff.1 ho).1
  have hlen : (ops.take i).length = i := by simp; omega
  obtain ⟨gs, k1, k2, k3⟩ := draw_trace (ops.take i) 0 _ _ _ hdr
  simp only [Nat.zero_add] at k2 k3
  have T : Trace (Env.of P eqs clone) cl (ops.take i) h.next N gs := ⟨hreg, k3, by rw [k1], by rw [k1]⟩
  have hOp := opOk_spec hop
  have hOs : ∀ k p, (ops.take i)[k]? = some p → OpOk (ops.take i) k p := fun k p hp => regionOk_spec hreg k p hp
  have hedge : ∀ k, k ≤ i → ∀ p, ops[k]? = some p → ∀ e ∈ p.after.toList, binding e = true → e.on < k := by
    intro k hk p hp' e he hbe
    rcases Nat.lt_or_ge k i with h1 | h1
    · exact (hOs k p (by rw [take_get h1]; exact hp')).edges e he hbe
    · have : k = i := by omega
      subst this
      rw [ho] at hp'; injection hp' with hp'; subst hp'
      exact hOp.edges e he hbe
  have key : ∀ (fuel : Nat) (L : List Bool) (j : Nat) (ρ1 : Rho) (a1 : Act) (w1 : World), L.length = ops.length → L.count false = fuel → (∀ k, i ≤ k → L[k]? ≠ some true) →
      Inv P n0 N h.next (ops.take i) gs ρ h w (fun k => L[k]? = some true) j ρ1 a1 w1 → wpAnyIn (Fr none) 0 P .any ⟨ops⟩ Q fuel ⟨L⟩ a1 w1 := by
    intro fuel
    induction fuel with
    | zero =>
      intro L j ρ1 a1 w1 hL hcnt hno I
      have : L[i]? = some false := by
        cases hx : L[i]? with
        | none => have := List.getElem?_eq_none_iff.1 hx; omega
        | some b => cases b with
          | true => exact absurd hx (hno i (Nat.le_refl _))
          | false => rfl
      have := count_set L i this
      omega
    | succ fuel ih =>
      intro L j ρ1 a1 w1 hL hcnt hno I
      refine ⟨fun hr => ?_, fun k hk => ?_⟩
      · exfalso
        have all : ∀ k, k ≤ i → L[k]? = some true := by
          intro k
          induction k using Nat.strongRecOn with
          | _ k ihk =>
            intro hk
            cases hx : L[k]? with
            | none => have := List.getElem?_eq_none_iff.1 hx; omega
            | some b =>
              cases b with
              | true => rfl
              | false =>
                have : k ∈ Region.ready .any ⟨ops⟩ ⟨L⟩ := ready_iff.2 ⟨by omega, hx, fun p hp' e he hbe => by
                  have := hedge k hk p hp' e he hbe
                  exact ihk e.on this (by omega)⟩
                rw [hr] at this; cases this
        exact hno i (Nat.le_refl _) (all i (Nat.le_refl _))
      · obtain ⟨q1, q2, q3⟩ := ready_iff.1 hk
        have hok : ops[k]? = some ops[k] := List.getElem?_eq_getElem q1
        have hset : (⟨L⟩ : Array Bool).setIfInBounds k true = ⟨L.set k true⟩ := by simp
        rcases Nat.lt_trichotomy k i with hlt | heq | hgt
        · have hok' : (ops.take i)[k]? = some ops[k] := by rw [take_get hlt]; exact hok
          have hf := I.fire ok hc T (Nat.le_refl _) hok' (by rw [q2]; simp) (q3 _ hok) (ro := Option.none) (Or.inl rfl) (Q := Q) (K := wpAnyIn (Fr none) 0 P .any ⟨ops⟩ Q fuel ⟨L.set k true⟩) fun j' ρ' a' w' I' => by
            refine ih (L.set k true) j' ρ' a' w' (by simp [hL]) (by have := count_set L k q2; omega) (fun k' hk' => ?_) ?_
            · rw [List.getElem?_set_ne (by omega)]; exact hno k' hk'
            · have : (fun k' => (L.set k true)[k']? = some true) = fun k' => (L[k']? = some true ∨ k' = k) := by
                funext k'
                apply propext
                by_cases e : k' = k
                · subst e; simp [hL, q1]
                · simp [List.getElem?_set, Ne.symm e, e]
              rw [this]; exact I'
          rw [hset]
          unfold wpOpIn at hf ⊢
          have h1 : (⟨ops.take i⟩ : Array Oper)[k]? = some ops[k] := by simpa using hok'
          have h2 : (⟨ops⟩ : Array Oper)[k]? = some ops[k] := by simp
          rw [h1] at hf; rw [h2]
          simp only at hf ⊢
          rw [wanted_take (hOs k _ hok')] at hf
          exact hf
        · subst heq
          have hko : ops[k] = o := by rw [ho] at hok; injection hok with hok; exact hok.symm
          have hDi : ¬ (fun k' => L[k']? = some true) k := by show ¬ L[k]? = some true; rw [q2]; simp
          have he : ∀ e ∈ o.after.toList, binding e = true → L[e.on]? = some true := q3 o ho
          have hmask : ∀ k', Nat.testBit m k' = true → L[k']? = some true := by
            intro k' hk'
            refine mask_in (D := fun k' => L[k']? = some true) (ops := ops) (fun k1 p hD hp1 e h3 h4 => ?_) k o ho he m k' hm hk'
            have hlt1 : k1 < k := Nat.lt_of_not_le fun hle => hno k1 hle hD
            exact I.down k1 p hD (by rw [take_get hlt1]; exact hp1) e h3 h4
          have hji : j ≤ (ops.take k).length := I.jn
          have hnl : ∀ k', j ≤ k' → k' < (ops.take k).length → ¬ Ld gs k' := by
            intro k' h1 h2 hlk
            rcases T.last (ops.take k).length (Nat.le_refl _) with ⟨_, h3⟩ | ⟨p, r, h3, h4, h5, h6⟩
            · exact h3 k' h2 hlk
            · rw [← k2, h3] at hlast
              have hDp := hmask p.1 hlast
              have := (I.loud p.1 h4 h5).1 hDp
              have := h6 k' h2 hlk
              omega
          obtain ⟨ρ2, s2, L2, _, _, _, hst⟩ := I.absorb T (Nat.le_refl _) hji hnl hmask
          have hstill := T.still (ops.take k).length hji (Nat.le_refl _) hnl
          have hOp' : OpOk (ops.take k) (ops.take k).length o := by rw [hlen]; exact hOp
          have hDl : ¬ (fun k' => L[k']? = some true) (ops.take k).length := by rw [hlen]; exact hDi
          have hal : Alike (Env.of P eqs clone) (gs (ops.take k).length).α (seen (ops.take k) gs (fun k' => L[k']? = some true) (ops.take k).length) o.op := I.alike hOp' hOs hDl he
          have hwE := I.wanted hOp' hOs hDl he
          have hsl := I.slotsE T
          rw [k2] at hal hwE
          have hwant : Region.wanted o (yielded ⟨ops.take k⟩ a1.tmps) = true := wanted_sound hsl (by rw [hwE]; exact hb)
          rw [wanted_take hOp] at hwant
          have c2 : Ctx P eqs ρ2 (seen (ops.take k) gs (fun k' => L[k']? = some true) (ops.take k).length) a1 := ⟨fun t x hx => let ⟨x', y1, y2⟩ := hsl t x hx; ⟨x', y1, y2.mono L2⟩, s2.glob, ok.eq, ok.pures, ok.loads⟩
          rw [panK_congr hal] at hpk
          unfold wpOpIn
          have h2' : (⟨ops⟩ : Array Oper)[k]? = some o := by simpa using ho
          rw [h2']
          simp only [hwant, if_true]
          rw [k2] at s2 hst
          refine panK_sound ok hp c2 s2 hpk fun ρ3 v' w3 s3 st3 hv => ?_
          refine hQ ρ3 a1 w3 v' ⟨s3, I.size, fun t x hx => ?_, ?_⟩ (hst.trans st3) hv
          · obtain ⟨hx1, hx2⟩ := delDst_get hx
            rw [← k2] at hx2
            rcases T.lex (ops.take k).length (Nat.le_refl _) t x hx2 with ⟨k', z1, p, z2, z3, _⟩ | ⟨_, z2⟩
            · exact absurd z3 (hx1 p (List.mem_of_getElem? z2))
            · obtain ⟨x', y1, y2⟩ := I.slot0 t x (fun k' p _ hp' => hx1 p (List.mem_of_getElem? hp')) z2
              exact ⟨x', y1, y2.mono (L2.trans st3.ext)⟩
          · rw [← k2, hstill.2.1]
            exact I.defs.mono (L2.trans st3.ext)
        · exfalso
          have hlm : k < (closures ops []).length := by
            have hm' := closures_at ops [] k ops[k] hok
            simp only [List.length_nil, Nat.zero_add] at hm'
            exact (List.getElem?_eq_some_iff.1 hm').1
          have hmk : (closures ops [])[k]? = some (closures ops [])[k] := List.getElem?_eq_getElem hlm
          have hbit := laterOk_spec hlat k _ hmk (by omega)
          have : L[i]? = some true := mask_in (D := fun k' => L[k']? = some true) (ops := ops) (fun k1 p hD hp1 e h3 h4 => by
            have hlt1 : k1 < i := Nat.lt_of_not_le fun hle => hno k1 hle hD
            exact I.down k1 p hD (by rw [take_get hlt1]; exact hp1) e h3 h4) k _ hok (q3 _ hok) _ i hmk hbit
          exact hno i (Nat.le_refl _) this
  refine wpIn_region_any ok.mixed ?_
  have hrep : Array.replicate (⟨ops⟩ : Array Oper).size false = ⟨List.replicate ops.length false⟩ := by simp
  rw [hrep]
  have hno : ∀ k : Nat, ¬ (List.replicate ops.length false)[k]? = some true := by
    intro k hk
    rw [List.getElem?_replicate] at hk
    split at hk <;> simp at hk
  have hg0 : (gs 0).h = ⟨h.next + (ops.take i).length, h.bl, h.mem⟩ := by rw [k1]
  have hα : (gs 0).α = α := by rw [k1]
  refine key _ _ 0 ρ a _ (by simp) (by simp) (fun k _ => hno k) ?_
  refine ⟨fun k hk => absurd hk (hno k), fun k o hk => absurd hk (hno k), Nat.zero_le _, fun k _ _ => ⟨fun hk => absurd hk (hno k), fun hk => absurd hk (Nat.not_lt_zero _)⟩, Or.inl rfl, ?_, ?_, ?_, fun q _ hk => absurd hk (hno _), fun q q' _ _ hk => absurd hk (hno _), fun p hp _ => ?_, s.size, fun k o t v hk => absurd hk (hno k), fun t v _ hv => ?_, ?_⟩
  · rw [hg0]; exact (s.sim.up _).drawn _
  · rw [hg0]
    exact ⟨Le.refl ρ, fun i p hi => Or.inl hi, Nat.le_add_right _ _, rfl, rfl, rfl, Nat.le_refl _, fun _ _ _ => rfl, fun B hB => Or.inr hB⟩
  · rw [hg0]; exact Nat.le_refl _
  · cases hr : ρ (h.next + p) with
    | none => rfl
    | some x => have := s.sim.born _ x hr; omega
  · rw [hα] at hv; exact s.slot t v hv
  · rw [hα]; exact s.defs

theorem panR_sound (ok : Ok P eqs clone) {cl pn : CallT} (hc : CallOk P P.globals.size n0 cl) (hp : PanOk P P.globals.size n0 pn) {id : Nat} {ops : Array Oper} {d : Bool} {Q : Exit → Act → World → Prop} {v : Value} {α' : A} {h' : H} (s : St P n0 ρ N α h a w)
    (hl : panR (Env.of P eqs clone) cl pn N ops.toList d α h = some (v, α', h')) (hQ : PanLands P n0 N ρ h w v α' h' Q) : (Code.region id ops d).wpIn (Fr none) 0 P Q a w := by
  unfold panR at hl
  obtain ⟨ops⟩ := ops
  generalize candsE 0 ops = l at hl
  induction l with
  | nil => cases hl
  | cons i l ih =>
    have hl : Option.casesOn (motive := fun _ => OutP) (bi d (panD (Env.of P eqs clone) cl pn N ops i α h) (panS (Env.of P eqs clone) cl pn N ops i α h))
      (List.rec (motive := fun _ => OutP) none (fun i _ ih => Option.casesOn (motive := fun _ => OutP) (bi d (panD (Env.of P eqs clone) cl pn N ops i α h) (panS (Env.of P eqs clone) cl pn N ops i α h)) ih some) l) some = some (v, α', h') := hl
    cases hx : bi d (panD (Env.of P eqs clone) cl pn N ops i α h) (panS (Env.of P eqs clone) cl pn N ops i α h) with
    | none => rw [hx] at hl; exact ih hl
    | some r =>
      rw [hx] at hl
      injection hl with hl
      subst hl
      cases d
      · exact panS_sound ok hc hp s hx hQ
      · exact panD_sound ok hc hp s hx hQ

/-- code that is left by a panic -/
def PanicOk (P : Program) (n0 N : Nat) (c : Code) (f : A → H → OutP) : Prop :=
  ∀ α h v α' h', f α h = some (v, α', h') → ∀ ρ a w, St P n0 ρ N α h a w → ∀ Q, PanLands P n0 N ρ h w v α' h' Q → c.wpIn (Fr none) 0 P Q a w

theorem loopP_ok {c : Code} {f : A → H → Out} {p : A → H → OutP} (hf : RunOk P n0 N none none c f) (hp : PanicOk P n0 N c p) : ∀ n, PanicOk P n0 N (.loop c) (iterP f p n) := by
  have wide : ∀ {m : Machine}, m.fenced P (Fr none) := fun {m} => fenced_wide P m
  have key : ∀ n α h v α' h', iterP f p n α h = some (v, α', h') → ∀ ρ a w, St P n0 ρ N α h a w → ∀ Q, PanLands P n0 N ρ h w v α' h' Q → ∀ (b : Frame) (k : List Item) (cs : List Frame), b.roundOf = (Fr none).round →
      ∃ e a' w', Q e a' w' ∧ ArrivesIn (Machine.fenced P (Fr none)) P (lone (b.atR a (.code c :: .inLoop c :: k)) cs w) b k cs e a' w' := by
    intro n
    induction n with
    | zero => intro α h v α' h' hl; cases hl
    | succ n ih =>
      intro α h v α' h' hl ρ a w s Q hQ b k cs hb
      have hl : Option.casesOn (motive := fun _ => OutP) (f α h) (p α h) (fun r => Ex.casesOn (motive := fun _ => OutP) r.1 (iterP f p n r.2.1 r.2.2) (fun _ => none) none) = some (v, α', h') := hl
      cases hr : f α h with
      | none =>
        rw [hr] at hl
        obtain ⟨x, a1, w1, ⟨⟨v1, hx1⟩, hq⟩, harr⟩ := hp α h v α' h' hl ρ a w s (fun x a' w' => (∃ v', x = .panic [{ v := v', recovered := false }]) ∧ Q x a' w') (fun ρ' a' w' v' s' st' hv => ⟨⟨v', rfl⟩, hQ ρ' a' w' v' s' st' hv⟩) b (.inLoop c :: k) cs hb trivial (fun _ h => by cases h)
        subst hx1
        exact ⟨_, a1, w1, hq, .pass (x := .inLoop c) rfl (fun _ _ => .inl (by simp)) harr⟩
      | some r =>
        obtain ⟨e1, α1, h1⟩ := r
        rw [hr] at hl
        cases e1 with
        | exit i => cases hl
        | ret => cases hl
        | normal =>
          obtain ⟨x, a1, w1, ⟨hx1, ρ', s', st'⟩, harr⟩ := hf (Or.inl rfl) α h .normal α1 h1 hr ρ a w s (RoOk.none ρ) (fun x a' w' => x = exOf .normal ∧ ∃ ρ', St P n0 ρ' N α1 h1 a' w' ∧ Step ρ h w ρ' h1 w') (fun ρ' a' w' s' st' => ⟨rfl, ρ', s', st'⟩) b (.inLoop c :: k) cs hb trivial (fun _ h => by cases h)
          subst hx1
          obtain ⟨e2, a2, w2, hq2, harr2⟩ := ih α1 h1 v α' h' hl ρ' a1 w1 s' Q (fun ρ'' a'' w'' v'' s'' st'' hv => hQ ρ'' a'' w'' v'' s'' (st'.trans st'') hv) b k cs hb
          exact ⟨e2, a2, w2, hq2, .of_steps (StepsIn.trans harr (.one wide stepR_inLoop)) harr2⟩
  intro n α h v α' h' hl ρ a w s Q hQ b k cs hb _ _
  obtain ⟨e, a', w', hq, harr⟩ := key n α h v α' h' hl ρ a w s Q hQ b k cs hb
  exact ⟨e, a', w', hq, .of_steps (.one wide stepR_loop) harr⟩

theorem rangeP_ok (ok : Ok P eqs clone) {pn : CallT} (hp : PanOk P P.globals.size n0 pn) {f : Operand} {ps : Array Tmp} {as body : Code} {Q : Exit → Act → World → Prop} {v : Value} {α' : A} {h' : H} (s : St P n0 ρ N α h a w)
    (hl : rangeP (Env.of P eqs clone) pn N f ps.toList as body α h = some (v, α', h')) (hQ : PanLands P n0 N ρ h w v α' h' Q) : (Code.rangeFunc f ps as body).wpIn (Fr none) 0 P Q a w := by
  unfold rangeP at hl
  rw [ob_some] at hl
  obtain ⟨fv, hf, hl⟩ := hl
  have hf := (s.ctx ok).opv hf
  split at hl
  · rename_i g ca cb _
    rw [bi_some_none, bi_some_none, ob_some] at hl
    obtain ⟨hda, hdb, ⟨α1, h1⟩, hen, hl⟩ := hl
    rw [om_some] at hl
    obtain ⟨⟨u, h2⟩, hcl, hl⟩ := hl
    injection hl with e1 e2; injection e2 with e2 e3; subst e1; subst e2; subst e3
    generalize hfe : a.eval f = fe at hf
    cases hf with
    | func _ _ ys _ ws hfa hfb =>
      refine wpIn_rangeFunc fun fn _ => ?_
      obtain ⟨L, mark, w1, ρ1, q1, q2, q3, q4⟩ := enter_ok (P := P) s (RoOk.none ρ) hen hda hdb (ps := ps) fn
      have hargs : VRs ρ1 (ca ++ [.func (.yield h1.next) #[] #[]] ++ cb) (ys ++ [.func (.yield L) #[] #[]] ++ ws) :=
        ((hfa.mono q4.ext).append (.cons _ _ _ _ (.yld _ _ q2) .nil)).append (hfb.mono q4.ext)
      obtain ⟨⟨gn, gb, hg1, hg2⟩, hcalls⟩ := hp _ _ _ _ _ hcl
      refine ⟨L, mark, w1, { target := .fn (.func g) ⟨ws⟩, args := ⟨ys ++ [.func (.yield L) #[] #[]]⟩ }, w1, g, ⟨ys ++ [.func (.yield L) #[] #[]] ++ ws⟩, w1, q1, ?_, fun _ _ => trivial, ?_, (fun h => by cases h), ?_⟩
      · have he : a.eval (.const (.func (.yield L) #[] #[])) = .func (.yield L) #[] #[] := rfl
        simp only [resolve, rangeCall, hfe, Deferred.ofValue, Sem.run_bind, Sem.run_pure, Result.andThen_ok]
        simp [he]
      · have := callFunc_enter (w := w1) ok.names hg1 hg2 ((⟨ys ++ [.func (.yield L) #[] #[]]⟩ : Array Value) ++ ⟨ws⟩)
        simp only [invoke]
        simpa using this
      · refine (callsIn_wide (n := 0 - 1)).2 ((hcalls ρ1 w1 _ q3.sim hargs).mono fun e3 w3 ⟨v', he, ρ3, s3, t3, hv3⟩ => ?_)
        subst he
        exact hQ ρ3 _ _ v' ⟨s3, q3.size, fun t v hv => let ⟨v', k1, k2⟩ := q3.slot t v hv; ⟨v', k1, k2.mono t3.ext⟩, q3.defs.mono t3.ext⟩ (q4.trans t3) hv3
  · cases hl

theorem evP_ok (ok : Ok P eqs clone) {cl pn : CallT} (hc : CallOk P P.globals.size n0 cl) (hp : PanOk P P.globals.size n0 pn) {sq dr : RegT} (hs : RegOk P n0 N none false sq) (hd : RegOk P n0 N none true dr) : ∀ c : Code, PanicOk P n0 N c (evP (Env.of P eqs clone) cl pn N sq dr c) := by
  intro c
  induction c with
  | region id ops d => intro α h v α' h' hl ρ a w s Q hQ; exact panR_sound ok hc hp s hl hQ
  | seq x y ix iy =>
    intro α h v α' h' hl ρ a w s Q hQ
    have hl : Option.casesOn (motive := fun _ => OutP) (evC (Env.of P eqs clone) cl N none sq dr x α h) (evP (Env.of P eqs clone) cl pn N sq dr x α h) (fun r => Ex.casesOn (motive := fun _ => OutP) r.1 (evP (Env.of P eqs clone) cl pn N sq dr y r.2.1 r.2.2) (fun _ => none) none) = some (v, α', h') := hl
    refine wpIn_seq ?_
    cases hr : evC (Env.of P eqs clone) cl N none sq dr x α h with
    | none =>
      rw [hr] at hl
      exact ix α h v α' h' hl ρ a w s _ fun ρ' a' w' v' s' st' hv => hQ ρ' a' w' v' s' st' hv
    | some r =>
      obtain ⟨e1, α1, h1⟩ := r
      rw [hr] at hl
      cases e1 with
      | exit i => cases hl
      | ret => cases hl
      | normal =>
        refine evC_ok ok hc hs hd x (Or.inl rfl) α h .normal α1 h1 hr ρ a w s (RoOk.none ρ) _ fun ρ' a' w' s' st' => ?_
        exact iy α1 h1 v α' h' hl ρ' a' w' s' Q fun ρ'' a'' w'' v'' s'' st'' hv => hQ ρ'' a'' w'' v'' s'' (st'.trans st'') hv
  | cond c x y ix iy =>
    intro α h v α' h' hl ρ a w s Q hQ
    have hl : ob (opv c (Env.of P eqs clone) α) (fun v => match v with | .bool t => bi t (evP (Env.of P eqs clone) cl pn N sq dr x α h) (evP (Env.of P eqs clone) cl pn N sq dr y α h) | _ => none) = some (v, α', h') := hl
    rw [ob_some] at hl
    obtain ⟨u, hu, hl⟩ := hl
    have hv' := (s.ctx ok).opv hu
    split at hl
    · rename_i t
      have hcv : a.eval c = .bool t := by
        generalize a.eval c = ec at hv'
        cases hv'; rfl
      refine wpIn_cond hcv ?_
      cases t
      · exact iy α h v α' h' hl ρ a w s Q hQ
      · exact ix α h v α' h' hl ρ a w s Q hQ
    · cases hl
  | block id x ix =>
    intro α h v α' h' hl ρ a w s Q hQ
    exact wpIn_block (ix α h v α' h' hl ρ a w s _ fun ρ' a' w' v' s' st' hv => hQ ρ' a' w' v' s' st' hv)
  | loop x ix => exact loopP_ok (fun hn => evC_ok ok hc hs hd x hn) ix 100000
  | rangeFunc f ps x y ix iy => intro α h v α' h' hl ρ a w s Q hQ; exact rangeP_ok ok hp s (show rangeP (Env.of P eqs clone) pn N f ps.toList x y α h = some (v, α', h') from hl) hQ
  | _ => intro α h v α' h' hl; cases hl
end
end Go.Ev
