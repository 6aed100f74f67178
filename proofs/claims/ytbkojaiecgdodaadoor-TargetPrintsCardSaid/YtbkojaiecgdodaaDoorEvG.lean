/- A part of an evaluator of runs, and that it is right. -/
import Derived.Test.YtbkojaiecgdodaaDoorEvF
import Derived.Recover
import Derived.RecoverIn
import Derived.Scope
set_option linter.unusedVariables false
set_option linter.unusedSimpArgs false
set_option linter.unusedSectionVars false
namespace Go
theorem stepR_scope {P : Program} {b : Frame} {a : Act} {k : List Item} {cs : List Frame} {w : World} {c : Code} :
    step P (lone (b.atR a (.code (.scope c) :: k)) cs w) = .next (lone (b.atR a (.code c :: .inScope c :: k)) cs w) :=
  step_lone_go (by simp [stepG, stepG.exec, Frame.atR])
theorem stepR_inScope {P : Program} {b : Frame} {a : Act} {k : List Item} {cs : List Frame} {w : World} {c : Code} :
    step P (lone (b.atR a (.inScope c :: k)) cs w) = .next (lone (b.atR a k) cs w) :=
  step_lone_go (by simp [stepG, stepG.exec, Frame.atR])
/-- a scope out of which nothing jumps -/
theorem wpIn_scope {F : Fence} {n : Nat} {P : Program} {Q : Exit → Act → World → Prop} {a : Act} {w : World} {c : Code} (h : c.wpIn F n P (Exit.noGoto Q) a w) : (Code.scope c).wpIn F n P Q a w := by
  intro b k cs hro hb hr
  have h0 : (lone (b.atR a (.code (.scope c) :: k)) cs w).fenced P F := fenced_calm hb hr rfl
  obtain ⟨e, a₁, w₁, hq, harr⟩ := h b (.inScope c :: k) cs hro hb hr
  cases e with
  | normal => exact ⟨.normal, a₁, w₁, hq, .head h0 stepR_scope (StepsIn.trans harr (.one (fenced_calm hb hr rfl) stepR_inScope))⟩
  | exit id =>
    have hx : exitTo id (.inScope c :: k) = exitTo id k := by simp [exitTo]
    exact ⟨.exit id, a₁, w₁, hq, fun k' hk => .head h0 stepR_scope (harr.1 k' (by rw [hx]; exact hk)),
      fun hr' hk => let ⟨k₁, h1, h2⟩ := harr.2 hr' (by rw [hx]; exact hk); ⟨k₁, h1, .head h0 stepR_scope h2⟩⟩
  | goto l => exact hq.elim
  | ret => exact ⟨_, a₁, w₁, hq, .of_steps (.one h0 stepR_scope) harr⟩
  | panic ch => exact ⟨_, a₁, w₁, hq, .of_steps (.one h0 stepR_scope) harr⟩
  | outgrown => exact ⟨_, a₁, w₁, hq, .of_steps (.one h0 stepR_scope) harr⟩
end Go
namespace Go.Ev
variable [Den]

section
variable {P : Program} {eqs : List Nat} {clone : Sp} {n0 N : Nat} {ρ : Rho} {h : H} {α : A} {a : Act} {w w' : World}

theorem Oper.dummy : True := trivial

/-- what is behind: by the way it is left -/
def Lands (P : Program) (n0 N : Nat) (ρ : Rho) (h : H) (w : World) (e : Ex) (α' : A) (h' : H) (Q : Exit → Act → World → Prop) : Prop :=
  ∀ ρ' a' w', St P n0 ρ' N α' h' a' w' → Step ρ h w ρ' h' w' → Q (exOf e) a' w'

/-- a way to go through regions is right -/
def RegOk (P : Program) (n0 N : Nat) (ro : Option Nat) (d : Bool) (f : RegT) : Prop :=
  ∀ (id : Nat) (ops : Array Oper) (α : A) (h : H) (α' : A) (h' : H), (ro = none ∨ noDefL ops.toList = true) → f ops.toList α h = some (α', h') → ∀ ρ a w, St P n0 ρ N α h a w → ∀ Q, Lands P n0 N ρ h w .normal α' h' Q → (Code.region id ops d).wpIn (Fr ro) 0 P Q a w

/-- the round that a loop stands in: its number, and where its record lies -/
structure RoOk (r ro : Option Nat) (ρ : Rho) : Prop where
  out : r = none → ro = none
  inn : ∀ l, r = some l → ∃ L, ro = some L ∧ ρ l = some (L, 0)
theorem RoOk.none (ρ : Rho) : RoOk none none ρ := ⟨fun _ => rfl, fun _ h => by cases h⟩
theorem RoOk.mono {r ro : Option Nat} {ρ ρ' : Rho} (L : Le ρ ρ') (k : RoOk r ro ρ) : RoOk r ro ρ' := ⟨k.out, fun l h => let ⟨B, h1, h2⟩ := k.inn l h; ⟨B, h1, L.get _ _ h2⟩⟩
def RunOk (P : Program) (n0 N : Nat) (r ro : Option Nat) (c : Code) (f : A → H → Out) : Prop :=
  (ro = none ∨ noDefC c = true) → ∀ α h e α' h', f α h = some (e, α', h') → ∀ ρ a w, St P n0 ρ N α h a w → RoOk r ro ρ → ∀ Q, Lands P n0 N ρ h w e α' h' Q → c.wpIn (Fr ro) 0 P Q a w

theorem loop_ok {r ro : Option Nat} {c : Code} {f : A → H → Out} (hf : RunOk P n0 N r ro c f) : ∀ n, RunOk P n0 N r ro (.loop c) (iterE f n) := by
  have key : (ro = none ∨ noDefC c = true) → ∀ n α h e α' h', iterE f n α h = some (e, α', h') → ∀ ρ a w, St P n0 ρ N α h a w → RoOk r ro ρ → ∀ Q, Lands P n0 N ρ h w e α' h' Q → ∀ (b : Frame) (k : List Item) (cs : List Frame), b.roundOf = (Fr ro).round →
      ∃ e a' w', Q e a' w' ∧ ArrivesIn (Machine.fenced P (Fr ro)) P (lone (b.atR a (.code c :: .inLoop c :: k)) cs w) b k cs e a' w' := by
    intro hnd n
    induction n with
    | zero => intro α h e α' h' hl; cases hl
    | succ n ih =>
      intro α h e α' h' hl ρ a w s hro Q hQ b k cs hb
      have hl : ob (f α h) (fun r => Ex.casesOn (motive := fun _ => Out) r.1 (iterE f n r.2.1 r.2.2) (fun i => some (.exit i, r.2)) (some (.ret, r.2))) = some (e, α', h') := hl
      rw [ob_some] at hl
      obtain ⟨⟨e1, α1, h1⟩, hr, hl⟩ := hl
      have hx := hf hnd α h e1 α1 h1 hr ρ a w s hro (fun x a' w' => x = exOf e1 ∧ ∃ ρ', St P n0 ρ' N α1 h1 a' w' ∧ Step ρ h w ρ' h1 w') (fun ρ' a' w' s' st' => ⟨rfl, ρ', s', st'⟩) b (.inLoop c :: k) cs hb trivial (fun _ h => by cases h)
      obtain ⟨x, a1, w1, ⟨hx1, ρ', s', st'⟩, harr⟩ := hx
      subst hx1
      cases e1 with
      | normal =>
        obtain ⟨e2, a2, w2, hq2, harr2⟩ := ih α1 h1 e α' h' hl ρ' a1 w1 s' (hro.mono st'.ext) Q (fun ρ'' a'' w'' s'' st'' => hQ ρ'' a'' w'' s'' (st'.trans st'')) b k cs hb
        exact ⟨e2, a2, w2, hq2, .of_steps (StepsIn.trans harr (.one (fenced_calm (n := 0) (F := Fr ro) trivial (fun _ h => by cases h) rfl) stepR_inLoop)) harr2⟩
      | exit i =>
        injection hl with hl; injection hl with e1 e2; injection e2 with e2 e3; subst e1; subst e2; subst e3
        exact ⟨_, a1, w1, hQ ρ' a1 w1 s' st', .pass (x := .inLoop c) rfl (fun _ _ => .inl (by simp [exOf])) harr⟩
      | ret =>
        injection hl with hl; injection hl with e1 e2; injection e2 with e2 e3; subst e1; subst e2; subst e3
        exact ⟨_, a1, w1, hQ ρ' a1 w1 s' st', .pass (x := .inLoop c) rfl (fun _ _ => .inl (by simp [exOf])) harr⟩
  intro n hnd α h e α' h' hl ρ a w s hro Q hQ b k cs hb _ _
  obtain ⟨e, a', w', hq, harr⟩ := key hnd n α h e α' h' hl ρ a w s hro Q hQ b k cs hb
  exact ⟨e, a', w', hq, .of_steps (.one (fenced_calm (n := 0) (F := Fr ro) trivial (fun _ h => by cases h) rfl) stepR_loop) harr⟩

theorem stOf_busy {n : Nat} (h : Nat.beq n 1 = false) : stOf n ≠ .busy := by
  match n with
  | 0 => simp [stOf]
  | 1 => cases h
  | 2 => simp [stOf]
  | n + 3 => simp [stOf]
theorem Sim.at_lp {ng : Nat} (s : Sim ng n0 ρ h w) {l L : Nat} {x : Blk} (hx : h.bl.get l = some x) (hl : isLp x = true) (hr : ρ l = some (L, 0)) : ∃ o, w.heap[L]? = some o ∧ LR ρ x o := by
  obtain ⟨B, o, h1, _, h3, h4⟩ := s.objs l x hx hl
  rw [hr] at h1; injection h1 with h1; injection h1 with e1 _; subst e1
  exact ⟨o, h3, h4⟩
theorem LR.rec_of {x : Lp} {o : Obj} (h : LR ρ (.lp x) o) : ∃ r, o = .loop r ∧ LR ρ (.lp x) (.loop r) := by
  cases h with
  | lp _ r a b c d e f g i j => exact ⟨r, rfl, .lp x r a b c d e f g i j⟩
/-- the record in another state -/
theorem set_lp {ng : Nat} (s : Sim ng n0 ρ h w) {l L : Nat} {x : Lp} {r : Loop} (hx : h.bl.get l = some (.lp x)) (hr : ρ l = some (L, 0)) (k : LR ρ (.lp x) (.loop r)) (st : Nat) (sv : LoopState) (hst : sv = stOf st) (j : Option Code) :
    Sim ng n0 ρ ⟨h.next, setLp h l ⟨st, j, x.t, x.n, x.ps, x.as, x.body⟩, h.mem⟩ (w.putObj L (.loop { r with state := sv, pending := j })) ∧
    Step ρ h w ρ ⟨h.next, setLp h l ⟨st, j, x.t, x.n, x.ps, x.as, x.body⟩, h.mem⟩ (w.putObj L (.loop { r with state := sv, pending := j })) := by
  refine s.set_obj hx rfl hr rfl (fun _ _ he => by cases he) (fun _ _ _ _ he => by cases he) (fun _ => ?_)
  cases k with
  | lp _ _ k1 k2 k3 k4 k5 k6 k7 k8 k9 => exact .lp _ _ hst rfl k3 k4 k5 k6 k7 k8 k9

theorem enter_ok {r ro : Option Nat} (s : St P n0 ρ N α h a w) (hro : RoOk r ro ρ) {α1 : A} {h1 : H} (hl : enterE r α h = some (α1, h1)) {ps : Array Tmp} {as body : Code} (hda : noDefC as = true) (hdb : noDefC body = true) (fn : FuncId) :
    ∃ (L : Nat) (mark : List Deferred) (w1 : World) (ρ' : Rho), (Instr.enterLoop fn a.tmps ps as body ro).run P w = .ok (L, mark) w1 ∧ ρ' h1.next = some (L, 0) ∧
      St P n0 ρ' N α1 (newBlk h1 (.lp ⟨0, none, α.t, N, ps.toList, as, body⟩)) { a with defers := mark ++ a.defers } w1 ∧ Step ρ h w ρ' (newBlk h1 (.lp ⟨0, none, α.t, N, ps.toList, as, body⟩)) w1 := by
  cases r with
  | none =>
    have := hro.out rfl
    subst this
    injection hl with hl; injection hl with e1 e2; subst e1; subst e2
    obtain ⟨s1, t1⟩ := s.sim.add_obj (.df true) (.deferred (some [])) rfl (fun _ _ he => by cases he) (fun _ _ _ _ he => by cases he) (fun _ => .df)
    have L1 := t1.ext
    obtain ⟨s2, t2⟩ := s1.add_obj (.lp ⟨0, none, α.t, N, ps.toList, as, body⟩) (.loop { state := .ready, pending := none, fn := fn, tmps := a.tmps, params := ps, assign := as, body := body, defers := w.heap.size }) rfl (fun _ _ he => by cases he) (fun _ _ _ _ he => by cases he)
      (fun _ => .lp _ _ rfl rfl s.size (fun t v hv => let ⟨v', k1, k2⟩ := s.slot t v hv; ⟨v', k1, k2.mono L1⟩) rfl rfl rfl hda hdb)
    have L2 := L1.trans t2.ext
    have hsz : ({ w with heap := w.heap.push (.deferred (some [])) } : World).heap.size = w.heap.size + 1 := by simp
    refine ⟨w.heap.size + 1, _, _, _, run_enterLoop_outer fn a.tmps ps as body, ?_, ⟨s2, s.size, fun t v hv => let ⟨v', k1, k2⟩ := s.slot t v hv; ⟨v', k1, k2.mono L2⟩, ?_⟩, t1.trans t2⟩
    · have := upd_same (upd ρ h.next w.heap.size 0 0) (newBlk h (.df true)).next ({ w with heap := w.heap.push (.deferred (some [])) } : World).heap.size 0 0
      rw [hsz] at this ⊢
      exact this
    · exact .col _ _ _ _ (t2.ext.get _ _ (upd_same _ _ _ _ _)) (s.defs.mono L2)
  | some l =>
    obtain ⟨L, e, hL⟩ := hro.inn l rfl
    subst e
    have hl : ob (h.bl.get l) (fun x => match x with | .lp _ => some (α, h) | _ => none) = some (α1, h1) := hl
    rw [ob_some] at hl
    obtain ⟨x, hx, hl⟩ := hl
    split at hl
    · rename_i x0
      injection hl with hl; injection hl with e1 e2; subst e1; subst e2
      obtain ⟨o, k1, k2⟩ := s.sim.at_lp hx rfl hL
      obtain ⟨r0, e, k2⟩ := k2.rec_of
      subst e
      obtain ⟨s2, t2⟩ := s.sim.add_obj (.lp ⟨0, none, α.t, N, ps.toList, as, body⟩) (.loop { state := .ready, pending := none, fn := fn, tmps := a.tmps, params := ps, assign := as, body := body, defers := r0.defers }) rfl (fun _ _ he => by cases he) (fun _ _ _ _ he => by cases he)
        (fun _ => .lp _ _ rfl rfl s.size s.slot rfl rfl rfl hda hdb)
      refine ⟨w.heap.size, [], _, _, ?_, upd_same _ _ _ _ _, ⟨s2, s.size, fun t v hv => let ⟨v', k1, k2⟩ := s.slot t v hv; ⟨v', k1, k2.mono t2.ext⟩, s.defs.mono t2.ext⟩, t2⟩
      unfold Instr.enterLoop
      simp only [Sem.run_bind, run_getLoop k1, run_newObj_alloc, Result.andThen, Sem.run_pure]
      rfl
    · cases hl

theorem range_ok (ok : Ok P eqs clone) {cl : CallT} (hc : CallOk P P.globals.size n0 cl) {r ro : Option Nat} {f : Operand} {ps : Array Tmp} {as body : Code} {Q : Exit → Act → World → Prop} {e : Ex} {α' : A} {h' : H} (s : St P n0 ρ N α h a w) (hro : RoOk r ro ρ)
    (hl : rangeE (Env.of P eqs clone) cl N r f ps.toList as body α h = some (e, α', h')) (hQ : Lands P n0 N ρ h w e α' h' Q) : (Code.rangeFunc f ps as body).wpIn (Fr ro) 0 P Q a w := by
  unfold rangeE at hl
  rw [ob_some] at hl
  obtain ⟨fv, hf, hl⟩ := hl
  have hf := (s.ctx ok).opv hf
  split at hl
  · rename_i g ca cb _
    rw [bi_some_none, bi_some_none, ob_some] at hl
    obtain ⟨hda, hdb, ⟨α1, h1⟩, hen, hl⟩ := hl
    rw [ob_some] at hl
    obtain ⟨⟨v, h2⟩, hcl, hl⟩ := hl
    generalize hfe : a.eval f = fe at hf
    cases hf with
    | func _ _ ys _ ws hfa hfb =>
      refine wpIn_rangeFunc fun fn _ => ?_
      obtain ⟨L, mark, w1, ρ1, q1, q2, q3, q4⟩ := enter_ok (P := P) s hro hen hda hdb (ps := ps) fn
      have hargs : VRs ρ1 (ca ++ [.func (.yield h1.next) #[] #[]] ++ cb) (ys ++ [.func (.yield L) #[] #[]] ++ ws) :=
        ((hfa.mono q4.ext).append (.cons _ _ _ _ (.yld _ _ q2) .nil)).append (hfb.mono q4.ext)
      obtain ⟨⟨gn, gb, hg1, hg2⟩, hcalls⟩ := hc.fn _ _ _ _ _ hcl
      refine ⟨L, mark, w1, { target := .fn (.func g) ⟨ws⟩, args := ⟨ys ++ [.func (.yield L) #[] #[]]⟩ }, w1, g, ⟨ys ++ [.func (.yield L) #[] #[]] ++ ws⟩, w1, q1, ?_, fun _ _ => trivial, ?_, (fun h => by cases h), ?_⟩
      · have he : a.eval (.const (.func (.yield L) #[] #[])) = .func (.yield L) #[] #[] := rfl
        simp only [resolve, rangeCall, hfe, Deferred.ofValue, Sem.run_bind, Sem.run_pure, Result.andThen_ok]
        simp [he]
      · have := callFunc_enter (w := w1) ok.names hg1 hg2 ((⟨ys ++ [.func (.yield L) #[] #[]]⟩ : Array Value) ++ ⟨ws⟩)
        simp only [invoke]
        simpa using this
      · refine (callsIn_wide (n := 0 - 1)).2 ((hcalls ρ1 w1 _ q3.sim hargs).mono fun e3 w3 ⟨v', he, ρ3, s3, t3, hv3⟩ => ?_)
        subst he
        unfold leaveE at hl
        rw [ob_some] at hl
        obtain ⟨x, hx, hl⟩ := hl
        split at hl
        · rename_i x0
          rw [bi_none_some, om_some] at hl
          obtain ⟨hst, ej, hj, hl⟩ := hl
          injection hl with e1 hl; injection hl with e2 e3; subst e1; subst e2; subst e3
          have hL3 := t3.ext.get _ _ q2
          obtain ⟨o, k1, k2⟩ := s3.at_lp hx rfl hL3
          obtain ⟨r0, e, k2⟩ := k2.rec_of
          subst e
          obtain ⟨s4, t4⟩ := set_lp s3 hx hL3 k2 3 .exhausted rfl x0.pend
          have hp : r0.pending = x0.pend ∧ r0.state = stOf x0.st := by cases k2 with | lp _ _ k1 k2 => exact ⟨k2, k1⟩
          have hq : Q (exOf ej) { a with defers := mark ++ a.defers } (w3.putObj L (.loop { r0 with state := .exhausted, pending := x0.pend })) :=
            hQ ρ3 _ _ ⟨s4, q3.size, fun t v hv => let ⟨v', k1, k2⟩ := q3.slot t v hv; ⟨v', k1, k2.mono t3.ext⟩, q3.defs.mono t3.ext⟩ (q4.trans (t3.trans t4))
          have hend := run_endLoop (P := P) k1 (by rw [hp.2]; exact stOf_busy hst)
          rw [hp.1] at hend
          refine ⟨x0.pend, _, hend, ?_⟩
          unfold jumpE at hj
          split at hj
          · rename_i hpn; rw [hpn] at hq ⊢; injection hj with hj; subst hj; exact hq
          · rename_i i hpn; rw [hpn] at hq ⊢; injection hj with hj; subst hj; exact wpIn_exit hq
          · rename_i hpn; rw [hpn] at hq ⊢; injection hj with hj; subst hj; exact wpIn_ret hq
          · cases hj
        · cases hl
  · cases hl

theorem slotT_get {l : List (Nat × Value)} {t : Nat} {v : Value} (h : (slotT l).get t = some v) : ∃ p ∈ l, t = p.1 ∧ v = p.2 := by
  induction l with
  | nil => cases h
  | cons p l ih =>
    have h : ((slotT l).set p.1 p.2).get t = some v := h
    rcases T.get_set h with ⟨h1, h2⟩ | ⟨_, h1⟩
    · exact ⟨p, List.mem_cons_self .., h1, h2.symm⟩
    · obtain ⟨q, h2, h3⟩ := ih h1; exact ⟨q, List.mem_cons_of_mem _ h2, h3⟩
theorem slotsHave_spec {t : T Value} {l : List (Nat × Value)} (h : slotsHave t l = true) : ∀ p ∈ l, ∃ v, t.get p.1 = some v ∧ caEq p.2 v = true := by
  induction l with
  | nil => intro p hp; cases hp
  | cons q l ih =>
    have h : bi (match t.get q.1 with | some v => caEq q.2 v | none => false) (slotsHave t l) false = true := h
    rw [bi_tf] at h
    obtain ⟨h1, h2⟩ := h
    intro p hp
    rcases List.mem_cons.1 hp with rfl | hp
    · split at h1
      · rename_i v hv; exact ⟨v, hv, h1⟩
      · cases h1
    · exact ih h2 p hp
theorem boxesHave_spec {t : T Value} {h : H} {l : List (Nat × List Value)} (hh : boxesHave t h l = true) : ∀ q ∈ l, ∃ v, t.get q.1 = some v ∧ boxHas h v q.2 = true := by
  induction l with
  | nil => intro p hp; cases hp
  | cons q l ih =>
    have hh : bi (match t.get q.1 with | some v => boxHas h v q.2 | none => false) (boxesHave t h l) false = true := hh
    rw [bi_tf] at hh
    obtain ⟨h1, h2⟩ := hh
    intro p hp
    rcases List.mem_cons.1 hp with rfl | hp
    · split at h1
      · rename_i v hv; exact ⟨v, hv, h1⟩
      · cases h1
    · exact ih h2 p hp
theorem keepS_get {t s : T Value} {l : List (Nat × List Value)} {j : Nat} {v : Value} (h : (keepS t l s).get j = some v) : (∃ q ∈ l, j = q.1 ∧ t.get j = some v) ∨ s.get j = some v := by
  induction l with
  | nil => exact Or.inr h
  | cons q l ih =>
    have h : (match t.get q.1 with | some v => (keepS t l s).set q.1 v | none => keepS t l s).get j = some v := h
    have tl : (keepS t l s).get j = some v → (∃ p ∈ q :: l, j = p.1 ∧ t.get j = some v) ∨ s.get j = some v := fun h => (ih h).imp (fun ⟨p, h1, h2⟩ => ⟨p, List.mem_cons_of_mem _ h1, h2⟩) id
    split at h
    · rename_i u hu
      rcases T.get_set h with ⟨h1, h2⟩ | ⟨_, h1⟩
      · exact Or.inl ⟨q, List.mem_cons_self .., h1, by rw [h1, hu, h2]⟩
      · exact tl h1
    · exact tl h
theorem boxHas_sound {ng : Nat} (s : Sim ng n0 ρ h w) {v v' : Value} {l : List Value} (hv : VR ρ v v') (hb : boxHas h v l = true) : ∃ B o, v' = .pointer (some ⟨B, o, none⟩) ∧ ∀ (i : Nat) (u : Value), l[i]? = some u → w.cell? ⟨B, o + i, none⟩ = some (dvs DenV.den u) := by
  unfold boxHas at hb
  split at hb
  · rename_i b o
    split at hb
    · rename_i vs hvs
      rw [ob_some] at hvs
      obtain ⟨c, hc, hvs⟩ := hvs
      cases hv with
      | ptr b o B base hρ =>
        refine ⟨B, base + o, rfl, fun i u hi => ?_⟩
        have hcs := cellsAt_sound s hρ hc
        obtain ⟨hlen, hget⟩ := getN_get hvs
        have hlt : i < vs.length := by rw [hlen]; exact (List.getElem?_eq_some_iff.1 hi).1
        obtain ⟨x, hx⟩ : ∃ x, vs[i]? = some x := ⟨_, List.getElem?_eq_getElem hlt⟩
        obtain ⟨y, h1, h2⟩ := hcs (o + i) x (hget i x hx)
        have e := caEqL_get hb hi hx h2
        rw [Nat.add_assoc, h1, e]
    · cases hb
  · cases hb
theorem lookL_spec {f id : Nat} {t : T Value} {h : H} {c : LF} : ∀ {l : List LF}, lookL l f id t h = some c → c ∈ l ∧ c.f = f ∧ c.id = id ∧ slotsHave t c.ins = true ∧ boxesHave t h c.boxes = true := by
  intro l
  induction l with
  | nil => intro h; cases h
  | cons d l ih =>
    intro hh
    have tl : lookL l f id t h = some c → c ∈ d :: l ∧ c.f = f ∧ c.id = id ∧ slotsHave t c.ins = true ∧ boxesHave t h c.boxes = true := fun h => let ⟨h1, h2⟩ := ih h; ⟨List.mem_cons_of_mem _ h1, h2⟩
    have hh : bi (Nat.beq d.f f) (bi (Nat.beq d.id id) (bi (slotsHave t d.ins) (bi (boxesHave t h d.boxes) (some d) (lookL l f id t h)) (lookL l f id t h)) (lookL l f id t h)) (lookL l f id t h) = some c := hh
    cases h1 : Nat.beq d.f f
    · rw [h1] at hh; exact tl hh
    cases h2 : Nat.beq d.id id
    · rw [h1, h2] at hh; exact tl hh
    cases h3 : slotsHave t d.ins
    · rw [h1, h2, h3] at hh; exact tl hh
    cases h4 : boxesHave t h d.boxes
    · rw [h1, h2, h3, h4] at hh; exact tl hh
    rw [h1, h2, h3, h4] at hh
    injection hh with hh
    subst hh
    exact ⟨List.mem_cons_self .., Nat.eq_of_beq_eq_true h1, Nat.eq_of_beq_eq_true h2, h3, h4⟩
theorem knownL_spec {hh : H} {g : Nat} {r : Option Nat} {x : Code} {l : LF} (h : knownL ((Env.of P eqs clone).cu g) r x α hh = some l) : r = none ∧ l ∈ DenD.loops ∧ g = l.f + 1 ∧ firstId x = some l.id ∧ α.d = [] ∧ (∀ p ∈ l.ins, ∃ v, α.t.get p.1 = some v ∧ caEq p.2 v = true) ∧ ∀ q ∈ l.boxes, ∃ v, α.t.get q.1 = some v ∧ boxHas hh v q.2 = true := by
  unfold knownL at h
  cases r with
  | some r => cases h
  | none =>
    have hE : ((Env.of P eqs clone).cu g).loops = DenD.loops := rfl
    have hC : ((Env.of P eqs clone).cu g).cur = g := rfl
    rw [hE, hC] at h
    cases hd : (DenD.loops : List LF) with
    | nil => rw [hd] at h; cases h
    | cons d ds =>
      rw [hd] at h
      cases g with
      | zero => cases h
      | succ g =>
        have h : List.casesOn (motive := fun _ => Option LF) α.d (ob (firstId x) (fun id => lookL (d :: ds) g id α.t hh)) (fun _ _ => none) = some l := h
        cases hdd : α.d with
        | cons _ _ => rw [hdd] at h; cases h
        | nil =>
        rw [hdd] at h
        have h : ob (firstId x) (fun id => lookL (d :: ds) g id α.t hh) = some l := h
        rw [ob_some] at h
        obtain ⟨id, h1, h⟩ := h
        obtain ⟨k1, k2, k3, k4, k5⟩ := lookL_spec h
        exact ⟨rfl, k1, by rw [k2], by rw [h1, k3], rfl, slotsHave_spec k4, boxesHave_spec k5⟩
theorem evC_okG (ok : Ok P eqs clone) {cl : CallT} (hc : CallOk P P.globals.size n0 cl) {r ro : Option Nat} {sq dr : RegT} (hs : RegOk P n0 N ro false sq) (hd : RegOk P n0 N ro true dr) (g : Nat) : ∀ c : Code, (∀ x ∈ loopsOf c, ∀ l ∈ DenD.loops, g = l.f + 1 → firstId x = some l.id → LFOk P N l x) → RunOk P n0 N r ro c (evC ((Env.of P eqs clone).cu g) cl N r sq dr c) := by
  intro c
  induction c with
  | skip =>
    intro _ _ α h e α' h' hl ρ a w s hro Q hQ
    injection hl with hl; injection hl with e1 e2; injection e2 with e2 e3; subst e1; subst e2; subst e3
    exact wpIn_skip (hQ ρ a w s (Step.refl _ _ _))
  | label l =>
    intro _ _ α h e α' h' hl ρ a w s hro Q hQ
    injection hl with hl; injection hl with e1 e2; injection e2 with e2 e3; subst e1; subst e2; subst e3
    exact wpIn_label (hQ ρ a w s (Step.refl _ _ _))
  | ret =>
    intro _ _ α h e α' h' hl ρ a w s hro Q hQ
    injection hl with hl; injection hl with e1 e2; injection e2 with e2 e3; subst e1; subst e2; subst e3
    exact wpIn_ret (hQ ρ a w s (Step.refl _ _ _))
  | exit i =>
    intro _ _ α h e α' h' hl ρ a w s hro Q hQ
    injection hl with hl; injection hl with e1 e2; injection e2 with e2 e3; subst e1; subst e2; subst e3
    exact wpIn_exit (hQ ρ a w s (Step.refl _ _ _))
  | region id ops d =>
    intro hL hnd α h e α' h' hl ρ a w s hro Q hQ
    have hl : om (bi d (dr ops.toList α h) (sq ops.toList α h)) (fun r => (Ex.normal, r)) = some (e, α', h') := hl
    rw [om_some] at hl
    obtain ⟨⟨α1, h1⟩, hr, hl⟩ := hl
    injection hl with e1 e2; injection e2 with e2 e3; subst e1; subst e2; subst e3
    cases d
    · exact hs id ops α h _ _ hnd hr ρ a w s Q hQ
    · exact hd id ops α h _ _ hnd hr ρ a w s Q hQ
  | seq x y ix iy =>
    intro hL hnd α h e α' h' hl ρ a w s hro Q hQ
    have hl : ob (evC ((Env.of P eqs clone).cu g) cl N r sq dr x α h) (fun q => Ex.casesOn (motive := fun _ => Out) q.1 (evC ((Env.of P eqs clone).cu g) cl N r sq dr y q.2.1 q.2.2) (fun i => some (.exit i, q.2)) (some (.ret, q.2))) = some (e, α', h') := hl
    rw [ob_some] at hl
    obtain ⟨⟨e1, α1, h1⟩, hr, hl⟩ := hl
    have hL1 := fun z hz => hL z (List.mem_append_left _ hz)
    have hL2 := fun z hz => hL z (List.mem_append_right _ hz)
    refine wpIn_seq (ix hL1 (hnd.imp id fun h => (bi_tf.1 h).1) α h e1 α1 h1 hr ρ a w s hro _ fun ρ' a' w' s' st' => ?_)
    cases e1 with
    | normal => exact iy hL2 (hnd.imp id fun h => (bi_tf.1 h).2) α1 h1 e α' h' hl ρ' a' w' s' (hro.mono st'.ext) Q fun ρ'' a'' w'' s'' st'' => hQ ρ'' a'' w'' s'' (st'.trans st'')
    | exit i =>
      injection hl with hl; injection hl with e1 e2; injection e2 with e2 e3; subst e1; subst e2; subst e3
      exact hQ ρ' a' w' s' st'
    | ret =>
      injection hl with hl; injection hl with e1 e2; injection e2 with e2 e3; subst e1; subst e2; subst e3
      exact hQ ρ' a' w' s' st'
  | cond c x y ix iy =>
    intro hL hnd α h e α' h' hl ρ a w s hro Q hQ
    have hl : ob (opv c ((Env.of P eqs clone).cu g) α) (fun v => match v with | .bool t => bi t (evC ((Env.of P eqs clone).cu g) cl N r sq dr x α h) (evC ((Env.of P eqs clone).cu g) cl N r sq dr y α h) | _ => none) = some (e, α', h') := hl
    rw [ob_some] at hl
    obtain ⟨v, hv, hl⟩ := hl
    replace hv : opv c (Env.of P eqs clone) α = some v := hv
    have hv' := (s.ctx ok).opv hv
    have hL1 := fun z hz => hL z (List.mem_append_left _ hz)
    have hL2 := fun z hz => hL z (List.mem_append_right _ hz)
    split at hl
    · rename_i t
      have hcv : a.eval c = .bool t := by
        generalize a.eval c = ec at hv'
        cases hv'; rfl
      refine wpIn_cond hcv ?_
      cases t
      · exact iy hL2 (hnd.imp id fun h => (bi_tf.1 h).2) α h e α' h' hl ρ a w s hro Q hQ
      · exact ix hL1 (hnd.imp id fun h => (bi_tf.1 h).1) α h e α' h' hl ρ a w s hro Q hQ
    · cases hl
  | block id x ix =>
    intro hL hnd α h e α' h' hl ρ a w s hro Q hQ
    have hl : ob (evC ((Env.of P eqs clone).cu g) cl N r sq dr x α h) (fun q => Ex.casesOn (motive := fun _ => Out) q.1 (some (.normal, q.2)) (fun i => bi (Nat.beq i id) (some (.normal, q.2)) (some (.exit i, q.2))) (some (.ret, q.2))) = some (e, α', h') := hl
    rw [ob_some] at hl
    obtain ⟨⟨e1, α1, h1⟩, hr, hl⟩ := hl
    refine wpIn_block (ix hL hnd α h e1 α1 h1 hr ρ a w s hro _ fun ρ' a' w' s' st' => ?_)
    cases e1 with
    | normal =>
      injection hl with hl; injection hl with e1 e2; injection e2 with e2 e3; subst e1; subst e2; subst e3
      exact hQ ρ' a' w' s' st'
    | exit i =>
      have hl : bi (Nat.beq i id) (some (Ex.normal, α1, h1)) (some (Ex.exit i, α1, h1)) = some (e, α', h') := hl
      rw [bi_eq] at hl
      simp only [exOf, Exit.inBlock]
      split at hl
      · rename_i he
        have he : i = id := Nat.eq_of_beq_eq_true he
        rw [if_pos he]
        injection hl with hl; injection hl with e1 e2; injection e2 with e2 e3; subst e1; subst e2; subst e3
        exact hQ ρ' a' w' s' st'
      · rename_i he
        have he : ¬ i = id := fun e => he (by subst e; simp)
        rw [if_neg he]
        injection hl with hl; injection hl with e1 e2; injection e2 with e2 e3; subst e1; subst e2; subst e3
        exact hQ ρ' a' w' s' st'
    | ret =>
      injection hl with hl; injection hl with e1 e2; injection e2 with e2 e3; subst e1; subst e2; subst e3
      exact hQ ρ' a' w' s' st'
  | loop x ix =>
    intro hL hnd α h e α' h' hl ρ a w s hro Q hQ
    have hl : loopE ((Env.of P eqs clone).cu g) r x (evC ((Env.of P eqs clone).cu g) cl N r sq dr x) α h = some (e, α', h') := hl
    unfold loopE at hl
    cases hk : knownL ((Env.of P eqs clone).cu g) r x α h with
    | none =>
      rw [hk] at hl
      exact loop_ok (ix fun z hz => hL z (List.mem_cons_of_mem _ hz)) 100000 hnd α h e α' h' hl ρ a w s hro Q hQ
    | some l =>
      rw [hk] at hl
      injection hl with hl; injection hl with e1 e2; injection e2 with e2 e3; subst e1; subst e2; subst e3
      obtain ⟨hr, hm, hg, hid, hd0, hsl, hbx⟩ := knownL_spec hk
      have hro0 := hro.out hr
      subst hro0
      have k := hL x (List.mem_cons_self ..) l hm hg hid
      have hdf := s.defs
      rw [hd0] at hdf
      have hdf0 : a.defers = [] := by generalize a.defers = q at hdf; cases hdf; rfl
      refine k.run a w s.size hdf0 s.sim.ng_le (Nat.le_trans s.sim.lowOk.low s.sim.low) s.sim.lowOk.fix (fun p hp => ?_) (fun q hq => ?_) Q fun a' w' z1 z2 z3 z5 z4 => ?_
      · obtain ⟨v, h1, h2⟩ := hsl p hp
        obtain ⟨v', h3, h4⟩ := s.slot _ _ h1
        rw [h3, caEq_dvs h2 h4]
      · obtain ⟨v, h1, h2⟩ := hbx q hq
        obtain ⟨v', h3, h4⟩ := s.slot _ _ h1
        obtain ⟨B, o, e, hc⟩ := boxHas_sound s.sim h4 h2
        subst e
        exact ⟨B, o, h3, hc⟩
      · obtain ⟨k1, k2⟩ := s.sim.below z4
        refine hQ ρ a' w' ⟨k1, z1, fun t v hv => ?_, by rw [z2, ← hdf0]; exact s.defs⟩ k2
        rcases keepS_get hv with ⟨q, hq, rfl, h1⟩ | hv
        · obtain ⟨v', h3, h4⟩ := s.slot _ _ h1
          exact ⟨v', (z5 q hq).trans h3, h4⟩
        · obtain ⟨p, hp, rfl, rfl⟩ := slotT_get hv
          exact ⟨_, z3 p hp, okV_VR (k.outs p hp)⟩
  | rangeFunc f ps x y ix iy => intro _ _ α h e α' h' hl ρ a w s hro Q hQ; exact range_ok ok hc s hro (show rangeE (Env.of P eqs clone) cl N r f ps.toList x y α h = some (e, α', h') from hl) hQ
  | scope x ix =>
    intro hL hnd α h e α' h' hl ρ a w s hro Q hQ
    refine wpIn_scope (ix hL hnd α h e α' h' hl ρ a w s hro _ fun ρ' a' w' s' st' => ?_)
    have := hQ ρ' a' w' s' st'
    cases e <;> exact this
  | goto l => intro _ _ α h e α' h' hl; cases hl
  | refuse why => intro _ _ α h e α' h' hl; cases hl

theorem evC_ok (ok : Ok P eqs clone) {cl : CallT} (hc : CallOk P P.globals.size n0 cl) {r ro : Option Nat} {sq dr : RegT} (hs : RegOk P n0 N ro false sq) (hd : RegOk P n0 N ro true dr) : ∀ c : Code, RunOk P n0 N r ro c (evC (Env.of P eqs clone) cl N r sq dr c) :=
  fun c => evC_okG ok hc hs hd 0 c fun _ _ _ _ h => by omega

-- results
theorem resE_cons (E : Env) (α : A) (h : H) (r : ResultVar) (l : List ResultVar) : resE E α h (r :: l) = ResultVar.casesOn (motive := fun _ => Option (List Value)) r (fun t => ob (α.t.get t) fun v => om (resE E α h l) fun vs => v :: vs)
    (fun a t => ob (α.t.get a) fun p => ob (loadE E t p h) fun v => om (resE E α h l) fun vs => v :: vs) := rfl
def rv (a : Act) : ResultVar → Sem Value
  | .tmp t => pure (a.tmps.getD t undef)
  | .cell x t => do loadVar t (← asAddr (a.tmps.getD x undef))
theorem results_eq (fn : Func) (a : Act) : results fn a.tmps = (do let vs ← fn.results.mapM (rv a); pure (if h : vs.size = 1 then vs[0] else .tuple vs)) := by
  unfold results
  have : (fun x => match x with | ResultVar.tmp t => pure (a.tmps.getD t undef) | ResultVar.cell x t => do loadVar t (← asAddr (a.tmps.getD x undef)) : ResultVar → Sem Value) = rv a := by
    funext x; cases x <;> rfl
  rw [← this]
  rfl
theorem res_list (s : St P n0 ρ N α h a w) : ∀ {l : List ResultVar} {vs : List Value}, resE (Env.of P eqs clone) α h l = some vs →
    ∃ vs', (l.mapM (m := Sem) (rv a)).run P w = .ok vs' w ∧ VRs ρ vs vs' := by
  intro l
  induction l with
  | nil => intro vs hl; injection hl with hl; subst hl; exact ⟨[], rfl, .nil⟩
  | cons r l ih =>
    intro vs hl
    rw [resE_cons] at hl
    cases r with
    | tmp t =>
      have hl : ob (α.t.get t) (fun v => om (resE (Env.of P eqs clone) α h l) fun vs => v :: vs) = some vs := hl
      rw [ob_some] at hl
      obtain ⟨v, hv, hl⟩ := hl
      rw [om_some] at hl
      obtain ⟨us, hus, rfl⟩ := hl
      obtain ⟨us', h1, h2⟩ := ih hus
      obtain ⟨v', h3, h4⟩ := s.slot t v hv
      refine ⟨v' :: us', ?_, .cons _ _ _ _ h4 h2⟩
      have : a.tmps.getD t undef = v' := by simp [Array.getD_eq_getD_getElem?, h3]
      simp only [List.mapM_cons, rv, Sem.run_bind, Sem.run_pure, Result.andThen_ok, this]
      rw [h1]; rfl
    | cell x t =>
      have hl : ob (α.t.get x) (fun p => ob (loadE (Env.of P eqs clone) t p h) fun v => om (resE (Env.of P eqs clone) α h l) fun vs => v :: vs) = some vs := hl
      rw [ob_some] at hl
      obtain ⟨p, hp, hl⟩ := hl
      rw [ob_some] at hl
      obtain ⟨v, hv, hl⟩ := hl
      rw [om_some] at hl
      obtain ⟨us, hus, rfl⟩ := hl
      obtain ⟨us', h1, h2⟩ := ih hus
      obtain ⟨p', h3, h4⟩ := s.slot x p hp
      obtain ⟨ad, h5, v', h6, h7⟩ := loadE_sound (P := P) s.sim h4 hv
      subst h5
      refine ⟨v' :: us', ?_, .cons _ _ _ _ h7 h2⟩
      have : a.tmps.getD x undef = .pointer (some ad) := by simp [Array.getD_eq_getD_getElem?, h3]
      have ha : (asAddr (a.tmps.getD x undef)).run P w = .ok ad w := by rw [this]; rfl
      have hr : (rv a (.cell x t)).run P w = .ok v' w := by simp only [rv, Sem.run_bind, ha, Result.andThen_ok, h6]
      simp only [List.mapM_cons, Sem.run_bind, hr, Sem.run_pure, Result.andThen_ok, h1]
theorem res_sound (s : St P n0 ρ N α h a w) {fn : Func} {vs : List Value} (hl : resE (Env.of P eqs clone) α h fn.results.toList = some vs) :
    ∃ v', (results fn a.tmps).run P w = .ok v' w ∧ VR ρ (pack vs) v' := by
  obtain ⟨vs', h1, h2⟩ := res_list s hl
  have hm : (fn.results.mapM (m := Sem) (rv a)).run P w = .ok ⟨vs'⟩ w := by
    rw [Array.mapM_eq_mapM_toList]
    simp only [Sem.run_map, h1, Result.andThen_ok]
  refine ⟨if h : vs'.length = 1 then vs'[0] else .tuple ⟨vs'⟩, ?_, ?_⟩
  · rw [results_eq, Sem.run_bind, hm]
    simp only [Result.andThen_ok, Sem.run_pure, List.size_toArray]
    congr 1
  · have hlen := h2.length
    unfold pack
    split
    · rename_i v
      cases h2 with
      | cons _ v' _ _ h3 h4 => cases h4; simpa using h3
    · rename_i hn
      have : ¬ vs'.length = 1 := by
        intro e
        rw [e] at hlen
        match vs, hlen with
        | [v], _ => exact hn v rfl
      rw [dif_neg this]
      exact .tuple _ _ h2

theorem init_st (s : Sim P.globals.size n0 ρ h w) {args args' : List Value} (hv : VRs ρ args args') {n : Nat} (hle : args.length ≤ n) :
    St P n0 ρ n (initA args) h { tmps := (⟨args'⟩ : Array Value) ++ Array.replicate (n - (⟨args'⟩ : Array Value).size) undef, defers := [] } w := by
  have hl := hv.length
  refine ⟨s, by simp; omega, fun t v hv' => ?_, .nil⟩
  have hv' := T.get_ofList hv'
  obtain ⟨v', h1, h2⟩ := hv.get hv'
  refine ⟨v', ?_, h2⟩
  have hlt := (List.getElem?_eq_some_iff.1 h1).1
  rw [Array.getElem?_append_left (by simpa using hlt)]
  simpa using h1
def DrawOk (P : Program) (n0 : Nat) (eqs : List Nat) (clone : Sp) : Prop := ∀ cl, CallOk P P.globals.size n0 cl → ∀ ro N, RegOk P n0 N ro true (regD (Env.of P eqs clone) cl N)
end
end Go.Ev
