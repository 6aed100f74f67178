/- A part of an evaluator of runs, and that it is right. -/
import Derived.Test.YtbkojaiecgdodaaDoorEvE
set_option linter.unusedVariables false
set_option linter.unusedSimpArgs false
set_option linter.unusedSectionVars false
namespace Go.Ev
variable [Den]

inductive DR (ρ : Rho) : List Df → List Deferred → Prop
  | nil : DR ρ [] []
  | cons (f : Nat) (args dargs cap : List Value) (l : List Df) (m : List Deferred) (h : VRs ρ args (dargs ++ cap)) (k : DR ρ l m) :
      DR ρ (.fn f args :: l) ({ target := .fn (.func f) ⟨cap⟩, args := ⟨dargs⟩ } :: m)
  | col (id r : Nat) (l : List Df) (m : List Deferred) (h : ρ id = some (r, 0)) (k : DR ρ l m) : DR ρ (.col id :: l) ({ target := .collected r, args := #[] } :: m)
theorem DR.mono {ρ ρ' : Rho} (L : Le ρ ρ') {l m} (h : DR ρ l m) : DR ρ' l m := by
  induction h with
  | nil => exact .nil
  | cons f args dargs cap l m h k ih => exact .cons _ _ _ _ _ _ (h.mono L) ih
  | col id r l m h k ih => exact .col _ _ _ _ (L.get _ _ h) ih

structure St (P : Program) (n0 : Nat) (ρ : Rho) (N : Nat) (α : A) (h : H) (a : Act) (w : World) : Prop where
  sim : Sim P.globals.size n0 ρ h w
  size : a.tmps.size = N
  slot : ∀ t v, α.t.get t = some v → ∃ v', a.tmps[t]? = some v' ∧ VR ρ v v'
  defs : DR ρ α.d a.defers

def exOf : Ex → Exit
  | .normal => .normal
  | .exit i => .exit i
  | .ret => .ret
/-- the loops of a piece of code: their bodies -/
def loopsOf : Code → List Code
  | .seq a b => loopsOf a ++ loopsOf b
  | .cond _ a b => loopsOf a ++ loopsOf b
  | .block _ a => loopsOf a
  | .scope a => loopsOf a
  | .loop a => a :: loopsOf a
  | _ => []
/-- a loop of which it is known where it leads -/
structure LFOk (P : Program) (N : Nat) (l : LF) (c : Code) : Prop where
  outs : ∀ p ∈ l.outs, okV DenV.den p.2 = true
  run : ∀ (a : Act) (w : World), a.tmps.size = N → a.defers = [] → P.globals.size ≤ w.heap.size → DenV.low ≤ w.heap.size → (∀ k, k < DenV.low → w.heap[k]? = DenV.fix k) → (∀ p ∈ l.ins, a.tmps[p.1]? = some (dvs DenV.den p.2)) →
    (∀ q ∈ l.boxes, ∃ B o, a.tmps[q.1]? = some (.pointer (some ⟨B, o, none⟩)) ∧ ∀ (i : Nat) (v : Value), q.2[i]? = some v → w.cell? ⟨B, o + i, none⟩ = some (dvs DenV.den v)) →
    ∀ Q : Exit → Act → World → Prop, (∀ a' w', a'.tmps.size = N → a'.defers = [] → (∀ p ∈ l.outs, a'.tmps[p.1]? = some (dvs DenV.den p.2)) → (∀ q ∈ l.boxes, a'.tmps[q.1]? = a.tmps[q.1]?) → Go.RowKit.Below w.heap.size w w' → Q (exOf l.ex) a' w') →
      (Code.loop c).wpIn (Fr none) 0 P Q a w
/-- what is asked of the program beside -/
structure Ok (P : Program) (eqs : List Nat) (clone : Sp) : Prop where
  eq : ∀ t, t ∈ eqs → EqOk P t
  names : NoName P
  clone : CloneOk P clone
  mixed : P.follows .mixedOrders = true
  calls : ∀ c ∈ DenD.calls, CFOk P c
  pures : ∀ c ∈ DenD.pures, OFOk P c
  loads : ∀ c ∈ DenD.loads, LDOk P c
  runs : ∀ r ∈ DenD.runs, KRun P r
  loops : ∀ f fn b, P.funcs[f]? = some fn → fn.body = some b → ∀ x ∈ loopsOf b, ∀ l ∈ DenD.loops, l.f = f → firstId x = some l.id → LFOk P fn.ntmps l x

section
variable {P : Program} {eqs : List Nat} {clone : Sp} {n0 N : Nat} {ρ : Rho} {h : H} {α : A} {a : Act} {w w' : World}

theorem St.ctx (ok : Ok P eqs clone) (s : St P n0 ρ N α h a w) : Ctx P eqs ρ α a := ⟨s.slot, s.sim.glob, ok.eq, ok.pures, ok.loads⟩

theorem St.put {ρ' : Rho} {h' : H} (s : St P n0 ρ N α h a w) (s' : Sim P.globals.size n0 ρ' h' w') (L : Le ρ ρ') {d : Option Tmp} (hd : ∀ t, d = some t → t < N) {v v' : Value} (hv : VR ρ' v v') :
    St P n0 ρ' N (putD α d v) h' (a.put d v') w' := by
  cases d with
  | none => exact ⟨s', s.size, fun t u hu => let ⟨u', h1, h2⟩ := s.slot t u hu; ⟨u', h1, h2.mono L⟩, s.defs.mono L⟩
  | some d =>
    refine ⟨s', by simp [Act.put, s.size], fun t u hu => ?_, s.defs.mono L⟩
    have hu : (α.t.set d v).get t = some u := hu
    rcases T.get_set hu with ⟨rfl, rfl⟩ | ⟨hne, hu⟩
    · exact ⟨v', by simp [Act.put, s.size, hd _ rfl], hv⟩
    · obtain ⟨u', h1, h2⟩ := s.slot t u hu
      exact ⟨u', by simp only [Act.put]; rw [Array.getElem?_setIfInBounds_ne (Ne.symm hne)]; exact h1, h2.mono L⟩

theorem stepV_res (ok : Ok P eqs clone) {cl : CallT} (s : St P n0 ρ N α h a w) {o : Oper} {α' : A} {h' : H} {k : Nat} (hk : k < 3) (hd : ∀ t, o.dst = some t → t < N)
    (hl : stepK (Env.of P eqs clone) cl o α h k = some (α', h')) : ResV P (execOp a.eval o) w fun v' w' => ∃ ρ', St P n0 ρ' N α' h' (a.put o.dst v') w' ∧ Step ρ h w ρ' h' w' := by
  have c := s.ctx ok
  rcases k with _ | _ | _ | k
  · have hl : om (pureE o.op (Env.of P eqs clone) α) (fun v => (putD α o.dst v, h)) = some (α', h') := hl
    rw [om_some] at hl
    obtain ⟨v, hv, hl⟩ := hl
    injection hl with e1 e2; subst e1; subst e2
    obtain ⟨v', h1, h2⟩ := pure_sound (w := w) c hv
    exact Or.inl ⟨v', w, h1, ρ, s.put s.sim (Le.refl _) hd h2, Step.refl _ _ _⟩
  · have hl : om (readE o.op (Env.of P eqs clone) α h) (fun v => (putD α o.dst v, h)) = some (α', h') := hl
    rw [om_some] at hl
    obtain ⟨v, hv, hl⟩ := hl
    injection hl with e1 e2; subst e1; subst e2
    obtain ⟨v', h1, h2⟩ := read_sound c s.sim hv
    exact Or.inl ⟨v', w, h1, ρ, s.put s.sim (Le.refl _) hd h2, Step.refl _ _ _⟩
  · have hl : om (allocE o.op (Env.of P eqs clone) α) (fun p => (putD α o.dst (mkA h.next p.2), newCells h p.1)) = some (α', h') := hl
    rw [om_some] at hl
    obtain ⟨⟨row, n⟩, hv, hl⟩ := hl
    injection hl with e1 e2; subst e1; subst e2
    obtain ⟨sv, he, row', el, h1, h2, h3⟩ := alloc_sound (w := w) c hv
    obtain ⟨k1, k2⟩ := new_cells s.sim h1 ⟨row'⟩ (fun i v hv => by simpa using hv) el
    have hsame := upd_same ρ h.next w.heap.size 0 (⟨row'⟩ : Array Value).size
    have hr : (execOp a.eval o).run P w = .ok (.value (mkA w.heap.size n)) { w with heap := w.heap.push (.cells ⟨row'⟩ el) } := by
      rw [he]; simp only [Sem.run_bind, h3, Result.andThen_ok, Sem.run_pure]
    refine Or.inl ⟨_, _, hr, _, s.put k1 k2.ext hd ?_, k2⟩
    cases n with
    | none => exact .ptr _ 0 _ 0 hsame
    | some k => exact .slice _ 0 _ _ _ 0 _ hsame (Or.inr ⟨rfl, (h2 k rfl).2⟩) (h2 k rfl).1
  · omega

theorem stepS_res (ok : Ok P eqs clone) {cl : CallT} (s : St P n0 ρ N α h a w) {o : Oper} {α' : A} {h' : H} (hk : isStore o.op = true) (hd : ∀ t, o.dst = some t → t < N)
    (hl : stepK (Env.of P eqs clone) cl o α h (kindOf (Env.of P eqs clone) o.op) = some (α', h')) : ResV P (execOp a.eval o) w fun v' w' => ∃ ρ', St P n0 ρ' N α' h' (a.put o.dst v') w' ∧ Step ρ h w ρ' h' w' := by
  have c := s.ctx ok
  obtain ⟨dst, op, type, pos, after, guard⟩ := o
  unfold isStore at hk
  cases op <;> first | (cases hk; done) | skip
  case store t x y =>
    have hl : om (lStore t x y (Env.of P eqs clone) cl α h) (fun p => (putD α dst p.1, p.2)) = some (α', h') := hl
    rw [om_some] at hl
    obtain ⟨⟨v, h2⟩, hv, hl⟩ := hl
    injection hl with e1 e2; subst e1; subst e2
    obtain ⟨w', h1, ρ', k1, k2, k3⟩ := store_sound c s.sim hv
    exact Or.inr ⟨w', by simp [execOp, h1], ρ', s.put k1 k2.ext hd k3, k2⟩

theorem stepK_res (ok : Ok P eqs clone) {cl : CallT} (hc : CallOk P P.globals.size n0 cl) (s : St P n0 ρ N α h a w) {o : Oper} {α' : A} {h' : H} {k : Nat} (hd : ∀ t, o.dst = some t → t < N)
    (hl : stepK (Env.of P eqs clone) cl o α h k = some (α', h')) :
    (Res P (execOp a.eval o) w fun v' w' => ∃ ρ', St P n0 ρ' N α' h' (a.put o.dst v') w' ∧ Step ρ h w ρ' h' w') ∨
    ∃ c d, o.op = .defer c ∧ (execOp a.eval o).run P w = .ok (.defer d) w ∧ St P n0 ρ N α' h' ({ a with defers := d :: a.defers }.put o.dst undef) w ∧ Step ρ h w ρ h' w := by
  have c := s.ctx ok
  by_cases hk : k < 3
  · exact Or.inl (stepV_res ok s hk hd hl).res
  obtain ⟨k, rfl⟩ : ∃ j, k = j + 3 := ⟨k - 3, by omega⟩
  cases k with
  | zero =>
    left
    have hl : om (loudE o.op (Env.of P eqs clone) cl α h) (fun p => (putD α o.dst p.1, p.2)) = some (α', h') := hl
    rw [om_some] at hl
    obtain ⟨⟨v, h2⟩, hv, hl⟩ := hl
    injection hl with e1 e2; subst e1; subst e2
    exact (loud_sound ok.names ok.clone hc c s.sim hv).mono fun v' w' ⟨ρ', k1, k2, k3⟩ => ⟨ρ', s.put k1 k2.ext hd k3, k2⟩
  | succ k => cases k with
   | succ k =>
    left
    have hl : om (loudE o.op (Env.of P eqs clone) cl α h) (fun p => (putD α o.dst p.1, p.2)) = some (α', h') := hl
    rw [om_some] at hl
    obtain ⟨⟨v, h2⟩, hv, hl⟩ := hl
    injection hl with e1 e2; subst e1; subst e2
    exact (loud_sound ok.names ok.clone hc c s.sim hv).mono fun v' w' ⟨ρ', k1, k2, k3⟩ => ⟨ρ', s.put k1 k2.ext hd k3, k2⟩
   | zero =>
    right
    have hl : om (deferE o.op (Env.of P eqs clone) α) (fun α => (putD α o.dst (.tuple #[]), h)) = some (α', h') := hl
    rw [om_some] at hl
    obtain ⟨α2, hv, hl⟩ := hl
    injection hl with e1 e2; subst e1; subst e2
    unfold deferE at hv
    split at hv
    · rename_i cc hop
      split at hv
      · rename_i f hcal
        rw [ob_some] at hv
        obtain ⟨args, hargs0, hv⟩ := hv
        rw [ob_some] at hv
        obtain ⟨fv, hf0, hv⟩ := hv
        have hargs := c.opvs hargs0
        have hf := c.opv hf0
        clear hargs0 hf0
        split at hv
        · rename_i g fa fb
          injection hv with hv; subst hv
          have hka : (cc.args.map a.eval) = ⟨cc.args.toList.map a.eval⟩ := by apply Array.ext'; simp
          generalize hfe : a.eval f = fe at hf
          cases hf with
          | func _ _ ys _ ws hfa hfb =>
            have hr : (execOp a.eval o).run P w = .ok (.defer { target := .fn (.func g) ⟨ws⟩, args := ⟨ys ++ cc.args.toList.map a.eval⟩ }) w := by
              simp only [execOp, hop, resolve, hcal, hka, hfe, Deferred.ofValue, Sem.run_bind, Sem.run_pure, Result.andThen_ok]
              simp
            refine ⟨cc, _, hop, hr, ?_⟩
            have s2 : St P n0 ρ N ⟨α.t, .fn g (fa ++ args ++ fb) :: α.d⟩ h { a with defers := { target := .fn (.func g) ⟨ws⟩, args := ⟨ys ++ cc.args.toList.map a.eval⟩ } :: a.defers } w :=
              ⟨s.sim, s.size, s.slot, .cons _ _ _ _ _ _ ((hfa.append hargs).append hfb) s.defs⟩
            exact ⟨s2.put s.sim (Le.refl _) hd (.tuple _ _ .nil), Step.refl _ _ _⟩
        · cases hv
      · cases hv
    · cases hv

theorem stepK_sound (ok : Ok P eqs clone) {cl : CallT} (hc : CallOk P P.globals.size n0 cl) (s : St P n0 ρ N α h a w) {ro : Option Nat} {o : Oper} (hnd : ro = none ∨ ∀ c, o.op ≠ .defer c) {α' : A} {h' : H} {k : Nat} (hd : ∀ t, o.dst = some t → t < N)
    (hl : stepK (Env.of P eqs clone) cl o α h k = some (α', h')) {next : Act → World → Prop} {Q : Exit → Act → World → Prop}
    (hK : ∀ ρ' a' w', St P n0 ρ' N α' h' a' w' → Step ρ h w ρ' h' w' → next a' w') : o.wpIn (Fr ro) 0 P a w next Q := by
  rcases stepK_res ok hc s hd hl with h1 | ⟨c, d, ho, h1, h2, h3⟩
  · exact wpIn_of_res h1 hnd fun v' w' ⟨ρ', k1, k2⟩ => hK ρ' _ _ k1 k2
  · rcases hnd with e | e
    · subst e
      refine ⟨fun _ _ => trivial, ?_⟩
      show Oper.uponIn _ _ _ _ _ _ _ ((execOp a.eval o).run P w)
      rw [h1, Oper.uponIn_defer]
      exact hK ρ _ _ h2 h3
    · exact absurd ho (e c)

theorem noDefL_mem : ∀ {l : List Oper}, noDefL l = true → ∀ o ∈ l, ∀ c, o.op ≠ .defer c := by
  intro l
  induction l with
  | nil => intro _ o ho; cases ho
  | cons p l ih =>
    intro h o ho c e
    unfold noDefL at h
    split at h
    · cases h
    · rename_i hn
      rcases List.mem_cons.1 ho with rfl | ho
      · exact hn c e
      · exact ih h o ho c e

theorem wanted_sound {ops : List Oper} {o : Oper} {b : Bool} (hT : ∀ t v, α.t.get t = some v → ∃ v', a.tmps[t]? = some v' ∧ VR ρ v v') (hl : wantedE ops α o = some b) : Region.wanted o (yielded ⟨ops⟩ a.tmps) = b := by
  unfold wantedE at hl
  unfold Region.wanted
  cases hg : o.guard with
  | none => rw [hg] at hl; injection hl with hl
  | some g =>
    obtain ⟨j, want⟩ := g
    rw [hg] at hl
    have hl : ob ops[j]? (fun p => ob p.dst fun t => ob (α.t.get t) fun v => match v with | .bool b => some (beqB b want) | .float _ _ => none | _ => some false) = some b := hl
    rw [ob_some] at hl
    obtain ⟨p, hp, hl⟩ := hl
    rw [ob_some] at hl
    obtain ⟨t, ht, hl⟩ := hl
    rw [ob_some] at hl
    obtain ⟨v, hv, hl⟩ := hl
    obtain ⟨v', h1, h2⟩ := hT t v hv
    have hy : yielded ⟨ops⟩ a.tmps j = (match v' with | .bool b => some b | _ => none) := by
      unfold yielded
      have : (⟨ops⟩ : Array Oper)[j]? = some p := by simpa using hp
      rw [this]
      simp only [Option.bind_some, ht, h1]
      cases v' <;> rfl
    simp only [hy]
    split at hl
    · injection hl with hl; cases h2; rw [← hl, beqB_eq]; rename_i b2; cases b2 <;> cases want <;> rfl
    · cases hl
    · rename_i hn hn2
      injection hl with hl
      rw [← hl]
      cases h2 <;> first | rfl | exact absurd rfl (hn _) | exact absurd rfl (hn2 _ _)

theorem dst_ok {d : Option Tmp} (h : Option.casesOn (motive := fun _ => Bool) d true (fun d => Nat.blt d N) = true) : ∀ t, d = some t → t < N := by
  intro t ht
  subst ht
  have : Nat.blt t N = true := h
  exact Nat.le_of_ble_eq_true this

theorem seqE_cons (E : Env) (cl : CallT) (N : Nat) (ops : List Oper) (o : Oper) (l : List Oper) (α : A) (h : H) : seqE E cl N ops (o :: l) α h = ob (stepE E cl N ops o α h) fun p => seqE E cl N ops l p.1 p.2 := rfl

theorem seq_sound (ok : Ok P eqs clone) {cl : CallT} (hc : CallOk P P.globals.size n0 cl) (ops : List Oper) {ro : Option Nat} (hnd : ro = none ∨ noDefL ops = true) {Q : Exit → Act → World → Prop} {α' : A} {h' : H} : ∀ (l : List Oper) (i : Nat) (α : A) (h : H) (ρ : Rho) (a : Act) (w : World),
    ops.drop i = l → St P n0 ρ N α h a w → seqE (Env.of P eqs clone) cl N ops l α h = some (α', h') →
    (∀ ρ' a' w', St P n0 ρ' N α' h' a' w' → Step ρ h w ρ' h' w' → Q .normal a' w') → wpOpsIn (Fr ro) 0 P ⟨ops⟩ Q (List.range' i l.length) a w := by
  intro l
  induction l with
  | nil =>
    intro i α h ρ a w _ s hl hQ
    injection hl with hl; injection hl with e1 e2; subst e1; subst e2
    exact hQ ρ a w s (Step.refl _ _ _)
  | cons o l ih =>
    intro i α h ρ a w hdrop s hl hQ
    rw [seqE_cons, ob_some] at hl
    obtain ⟨⟨α1, h1⟩, hst, hl⟩ := hl
    have hoi : ops[i]? = some o := by
      have := congrArg (fun q => q[0]?) hdrop
      simpa using this
    have hdrop' : ops.drop (i + 1) = l := by
      rw [← List.drop_drop, hdrop]; rfl
    unfold stepE at hst
    rw [bi_some_none, ob_some] at hst
    obtain ⟨hd, b, hb, hst⟩ := hst
    have hd := dst_ok hd
    have hw := wanted_sound s.slot hb
    have hoi' : (⟨ops⟩ : Array Oper)[i]? = some o := by simpa using hoi
    rw [List.length_cons, List.range'_succ]
    simp only [wpOpsIn, hoi', hw]
    cases b
    · rw [bi_false] at hst
      injection hst with hst; injection hst with e1 e2; subst e1; subst e2
      simp only [Bool.false_eq_true, if_false]
      exact ⟨fun _ _ => trivial, ih (i + 1) _ _ ρ _ w hdrop' (s.put s.sim (Le.refl _) hd (.tuple _ _ .nil)) hl hQ⟩
    · rw [bi_true] at hst
      simp only [if_true]
      refine stepK_sound ok hc s (hnd.imp id fun e => noDefL_mem e o (List.mem_of_getElem? hoi)) hd hst fun ρ' a' w' s' st' => ?_
      exact ih (i + 1) _ _ ρ' a' w' hdrop' s' hl fun ρ'' a'' w'' s'' st'' => hQ ρ'' a'' w'' s'' (st'.trans st'')

theorem region_seq (ok : Ok P eqs clone) {cl : CallT} (hc : CallOk P P.globals.size n0 cl) {id : Nat} {ops : Array Oper} {ro : Option Nat} (hnd : ro = none ∨ noDefL ops.toList = true) {Q : Exit → Act → World → Prop} {α' : A} {h' : H} (s : St P n0 ρ N α h a w)
    (hl : seqE (Env.of P eqs clone) cl N ops.toList ops.toList α h = some (α', h')) (hQ : ∀ ρ' a' w', St P n0 ρ' N α' h' a' w' → Step ρ h w ρ' h' w' → Q .normal a' w') : (Code.region id ops false).wpIn (Fr ro) 0 P Q a w := by
  refine wpIn_region ?_
  have := seq_sound ok hc ops.toList hnd ops.toList 0 α h ρ a w rfl s hl hQ
  rw [List.range_eq_range']
  simpa using this
end
end Go.Ev
