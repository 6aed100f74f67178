/- A part of an evaluator of runs, and that it is right. -/
import Derived.Test.YtbkojaiecgdodaaDoorEvH
import Derived.Below
section
set_option linter.unusedVariables false
set_option linter.unusedSimpArgs false
open Go.RowKit
set_option linter.unusedSectionVars false
namespace Go.Ev
variable [Den]

/-- a memory that holds nothing but rows that are only read -/
noncomputable def roB : List (Nat × List Value) → T Blk
  | [] => .leaf
  | p :: l => (roB l).set p.1 (.ro (T.ofList p.2))
theorem roB_get : ∀ {l : List (Nat × List Value)} {b : Nat} {x : Blk}, (roB l).get b = some x → ∃ p ∈ l, b = p.1 ∧ x = .ro (T.ofList p.2) := by
  intro l
  induction l with
  | nil => intro b x h; cases h
  | cons p l ih =>
    intro b x h
    rcases T.get_set h with ⟨e, h⟩ | ⟨_, h⟩
    · exact ⟨p, by simp, e, h.symm⟩
    · obtain ⟨q, h1, h2⟩ := ih h; exact ⟨q, by simp [h1], h2⟩
noncomputable def roH (next : Nat) (l : List (Nat × List Value)) : H := ⟨next, roB l, .leaf⟩

/-- a closed run that answers true, seen as a call -/
def isT : Option (Value × H) → Bool
  | some (.bool true, _) => true
  | _ => false

section
variable {P : Program} {eqs : List Nat} {clone : Sp} {w : World}

/-- tables that are as is said; open values may stand in them -/
def TabOk (P : Program) (w : World) (l : List (Nat × List Value)) : Prop :=
  ∀ p ∈ l, p.1 < P.globals.size ∧ ∀ (o : Nat) (u : Value), p.2[o]? = some u → okv DenV.den u = true ∧ w.cell? ⟨p.1, o, none⟩ = some (dv DenV.den u)
theorem TabOk.of_flat {l : List (Nat × List Value)} (hl : ∀ p ∈ l, p.1 < P.globals.size ∧ flatL p.2 = true ∧ ∀ (o : Nat) (u : Value), p.2[o]? = some u → w.cell? ⟨p.1, o, none⟩ = some u) : TabOk P w l := by
  intro p hp
  obtain ⟨k1, k2, k3⟩ := hl p hp
  refine ⟨k1, fun o u hu => ?_⟩
  have k3 := k3 o u hu
  have hf : flat1 u = true := by
    clear k3 hp
    revert hu
    generalize p.2 = q at k2
    intro hv
    induction q generalizing o with
    | nil => simp at hv
    | cons u q ih =>
      simp only [flatL, bi_tf] at k2
      cases o with
      | zero => simp at hv; subst hv; exact k2.1
      | succ o => simp at hv; exact ih o k2.2 hv
  cases u <;> first | exact ⟨hf, k3⟩ | (cases hf; done)

theorem roSimN {ow : Nat → Option Value} {next n0 : Nat} {l : List (Nat × List Value)} (hn : P.globals.size ≤ next) (hw0 : P.globals.size ≤ n0) (h0 : LowOk n0 w) (hl : TabOk P w l) :
    Sim P.globals.size n0 ⟨fun i => if i < P.globals.size then some (i, 0) else none, fun _ => 0, ow⟩ (roH next l) w := by
  have hw : P.globals.size ≤ w.heap.size := Nat.le_trans hw0 h0.size
  have gl : ∀ {i : Nat} {p : Nat × Nat}, (if i < P.globals.size then some (i, 0) else none) = some p → i < P.globals.size ∧ p = (i, 0) := by
    intro i p h
    split at h
    · injection h with h; exact ⟨‹_›, h.symm⟩
    · cases h
  have noc : ∀ {b x}, (roH next l).bl.get b = some x → isWr x = true → False := by
    intro b x h hx
    obtain ⟨p, _, _, e⟩ := roB_get h
    subst e; cases hx
  refine ⟨fun i p h => ?_, fun i B base h => ?_, fun b t c B base h => (noc h rfl).elim, fun g hg => if_pos hg, h0, fun b t c h => (noc h rfl).elim, fun b t h => ?_, fun b es k h => (noc h rfl).elim, fun b m s sn st h => (noc h rfl).elim, fun b x h hx => (noc h (isObj_wr (isLp_obj hx))).elim,
    fun b t c b' t' c' B base base' h => (noc h rfl).elim, fun b t c l h => (noc h rfl).elim, fun b t c h => (noc h rfl).elim, fun b x b' x' B base base' h _ ho => (noc h (isObj_wr ho)).elim⟩
  · have := (gl h).1
    show i < next
    omega
  · obtain ⟨h1, h2⟩ := gl h
    injection h2 with h2 h3; subst h2; omega
  · obtain ⟨p, hp, e1, e2⟩ := roB_get h
    injection e2 with e2; subst e2; subst e1
    obtain ⟨k1, k3⟩ := hl p hp
    refine ⟨p.1, if_pos k1, by omega, fun o v hv => ?_⟩
    obtain ⟨k4, k5⟩ := k3 o v (T.get_ofList hv)
    exact ⟨_, k5, okv_VR k4⟩

theorem roSimO (ow : Nat → Option Value) {next : Nat} {l : List (Nat × List Value)} (hn : P.globals.size ≤ next) (hw : P.globals.size ≤ w.heap.size) (h0 : LowOk w.heap.size w) (hl : TabOk P w l) :
    Sim P.globals.size w.heap.size ⟨fun i => if i < P.globals.size then some (i, 0) else none, fun _ => 0, ow⟩ (roH next l) w := roSimN hn hw h0 hl
theorem roSim {next : Nat} {l : List (Nat × List Value)} (hn : P.globals.size ≤ next) (hw : P.globals.size ≤ w.heap.size) (h0 : LowOk w.heap.size w) (hl : TabOk P w l) :
    Sim P.globals.size w.heap.size ⟨fun i => if i < P.globals.size then some (i, 0) else none, fun _ => 0, fun _ => none⟩ (roH next l) w := roSimO (fun _ => none) hn hw h0 hl
theorem run_true (ok : Ok P eqs clone) {n f next : Nat} {l : List (Nat × List Value)} (hn : P.globals.size ≤ next) (hw : P.globals.size ≤ w.heap.size) (h0 : LowOk w.heap.size w) (hl : TabOk P w l)
    (hr : isT (callN (Env.of P eqs clone) n f [] (roH next l)) = true) : Calls P f #[] w fun e w' => e = .returned (.bool true) ∧ Below w.heap.size w w' := by
  cases hc : callN (Env.of P eqs clone) n f [] (roH next l) with
  | none => rw [hc] at hr; cases hr
  | some r =>
    obtain ⟨v, h'⟩ := r
    rw [hc] at hr
    have hv : v = .bool true := by
      unfold isT at hr
      split at hr
      · rename_i hxy; injection hxy with hxy; injection hxy
      · cases hr
    subst hv
    have hs := roSim (next := next) hn hw h0 hl
    have := (callN_ok ok (draw_ok ok) n f [] (roH next l) _ h' hc).2 _ w [] hs .nil
    refine this.mono fun e w' ⟨v', he, ρ', s', st', hv'⟩ => ?_
    subst he
    refine ⟨by cases hv'; rfl, ?_⟩
    refine ⟨st'.os, st'.tape, st'.output, st'.size, fun B hB => st'.keep B hB ?_⟩
    rintro ⟨b, base, x, h1, h2, _⟩
    obtain ⟨p, _, _, e⟩ := roB_get h1
    subst e; cases h2
end
end Go.Ev
end
section
set_option linter.unusedVariables false
set_option linter.unusedSimpArgs false
set_option linter.unusedSectionVars false
namespace Go.Ev
variable [Den]
variable {α : Type}
/-- of a tree, what stands at some places -/
noncomputable def keepT (t : T α) (l : List Nat) : T α := List.rec .leaf (fun i _ ih => Option.casesOn (t.get i) ih fun x => ih.set i x) l
theorem keepT_cons (t : T α) (i : Nat) (l : List Nat) : keepT t (i :: l) = Option.casesOn (motive := fun _ => T α) (t.get i) (keepT t l) fun x => (keepT t l).set i x := rfl
theorem keepT_get (t : T α) : ∀ {l : List Nat} {b : Nat} {x : α}, (keepT t l).get b = some x → t.get b = some x := by
  intro l
  induction l with
  | nil => intro b x h; cases h
  | cons i l ih =>
    intro b x h
    rw [keepT_cons] at h
    cases hg : t.get i with
    | none => rw [hg] at h; exact ih h
    | some y =>
      rw [hg] at h
      rcases T.get_set h with ⟨rfl, rfl⟩ | ⟨_, h⟩
      · exact hg
      · exact ih h
/-- of a memory, some rows -/
noncomputable def keepH (ids cls : List Nat) (h : H) : H := ⟨h.next, keepT h.bl ids, keepT h.mem cls⟩

section
variable {P : Program} {eqs : List Nat} {clone : Sp} {ng n0 : Nat} {ρ ρ' : Rho} {h h' : H} {w w' : World} {ids cls : List Nat}
theorem Sim.kept (s : Sim ng n0 ρ h w) : Sim ng n0 ρ (keepH ids cls h) w := by
  have k : ∀ {b : Nat} {x : Blk}, (keepH ids cls h).bl.get b = some x → h.bl.get b = some x := fun hb => keepT_get _ hb
  exact ⟨s.born, s.inh, fun b t c B base hb => s.rows b t c B base (k hb), s.glob, s.lowOk, fun b t c hb => s.cells b t c (k hb), fun b t hb => s.ro b t (k hb), fun b es n hb => s.maps b es n (k hb), fun b m a sn st hb => s.iters b m a sn st (k hb), fun b x hb => s.objs b x (k hb),
    fun b t c b' t' c' B base base' hb hb' => s.cls b t c b' t' c' B base base' (k hb) (k hb'), fun b t c l hb hl => s.mem b t c l (k hb) (keepT_get _ hl), fun b t c hb => s.clsb b t c (k hb), fun b x b' x' B base base' hb hb' => s.inj b x b' x' B base base' (k hb) (k hb')⟩
theorem Step.kept (st : Step ρ h w ρ' h' w') : Step ρ h w ρ' (keepH ids cls h') w' :=
  ⟨st.ext, st.fresh, st.next, st.os, st.tape, st.output, st.size, st.keep, fun B ⟨b, base, x, h1, h2, h3⟩ => st.img B ⟨b, base, x, keepT_get _ h1, h2, h3⟩⟩

/-- a run, and what of its memory is kept -/
noncomputable def runK (E : Env) (n f : Nat) (args : List Value) (h : H) (ids cls : List Nat) : Option (Value × H) := om (callN E n f args h) fun p => (p.1, keepH ids cls p.2)
theorem runK_calls (ok : Ok P eqs clone) {n f : Nat} {args args' : List Value} {v : Value} (hr : runK (Env.of P eqs clone) n f args h ids cls = some (v, h')) (s : Sim P.globals.size n0 ρ h w) (hv : VRs ρ args args') :
    Calls P f ⟨args'⟩ w fun e w' => ∃ v', e = .returned v' ∧ Post P.globals.size n0 ρ h w h' v v' w' := by
  unfold runK at hr
  rw [om_some] at hr
  obtain ⟨⟨u, h1⟩, hc, hr⟩ := hr
  injection hr with e1 e2; subst e1; subst e2
  refine ((callN_ok ok (draw_ok ok) n f args h _ h1 hc).2 ρ w args' s hv).mono fun e w' ⟨v', he, ρ', s', st', hv'⟩ => ⟨v', he, ρ', s'.kept, st'.kept, hv'⟩
end
end Go.Ev
end
