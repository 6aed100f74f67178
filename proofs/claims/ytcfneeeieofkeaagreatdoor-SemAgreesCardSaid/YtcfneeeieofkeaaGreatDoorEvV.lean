/- A part of an evaluator of runs, and that it is right. -/
import Derived.Test.YtcfneeeieofkeaaGreatDoorEvU
set_option linter.unusedVariables false
set_option linter.unusedSimpArgs false
set_option linter.unusedSectionVars false
namespace Go.Ev
variable [Den]
variable {α : Type}
/-- of a tree, what stands at some places -/
noncomputable def keepT (t : T α) (l : List Nat) : T α := List.rec .leaf (fun i _ ih => Option.casesOn (t.get i) ih fun x => ih.set i x) l
theorem keepT_cons (t : T α) (i : Nat) (l : List Nat) : keepT t (i :: l) = Option.casesOn (motive := fun _ => T α) (t.get i) (keepT t l) fun x => (keepT t l).set i x := rfl
theorem keepT_get (t : T α) : ∀ {l : List Nat} {b : Nat} {x : α}, (keepT t l).get b = some x → t.get b = some x := by
  intro l
  induction l with
  | nil => intro b x h; cases h
  | cons i l ih =>
    intro b x h
    rw [keepT_cons] at h
    cases hg : t.get i with
    | none => rw [hg] at h; exact ih h
    | some y =>
      rw [hg] at h
      rcases T.get_set h with ⟨rfl, rfl⟩ | ⟨_, h⟩
      · exact hg
      · exact ih h
/-- of a memory, some rows -/
noncomputable def keepH (ids cls : List Nat) (h : H) : H := ⟨h.next, keepT h.bl ids, keepT h.mem cls⟩

section
variable {P : Program} {eqs : List Nat} {clone : Nat} {ng n0 : Nat} {ρ ρ' : Rho} {h h' : H} {w w' : World} {ids cls : List Nat}
theorem Sim.kept (s : Sim ng n0 ρ h w) : Sim ng n0 ρ (keepH ids cls h) w := by
  have k : ∀ {b : Nat} {x : Blk}, (keepH ids cls h).bl.get b = some x → h.bl.get b = some x := fun hb => keepT_get _ hb
  exact ⟨s.born, s.inh, fun b t c B base hb => s.rows b t c B base (k hb), s.glob, s.lowOk, fun b t c hb => s.cells b t c (k hb), fun b t hb => s.ro b t (k hb), fun b es n hb => s.maps b es n (k hb), fun b m a sn st hb => s.iters b m a sn st (k hb),
    fun b t c b' t' c' B base base' hb hb' => s.cls b t c b' t' c' B base base' (k hb) (k hb'), fun b t c l hb hl => s.mem b t c l (k hb) (keepT_get _ hl), fun b t c hb => s.clsb b t c (k hb), fun b x b' x' B base base' hb hb' => s.inj b x b' x' B base base' (k hb) (k hb')⟩
theorem Step.kept (st : Step ρ h w ρ' h' w') : Step ρ h w ρ' (keepH ids cls h') w' :=
  ⟨st.ext, st.fresh, st.next, st.os, st.tape, st.output, st.size, st.keep, fun B ⟨b, base, x, h1, h2, h3⟩ => st.img B ⟨b, base, x, keepT_get _ h1, h2, h3⟩⟩

/-- a run, and what of its memory is kept -/
noncomputable def runK (E : Env) (n f : Nat) (args : List Value) (h : H) (ids cls : List Nat) : Option (Value × H) := om (callN E n f args h) fun p => (p.1, keepH ids cls p.2)
theorem runK_calls (ok : Ok P eqs clone) {n f : Nat} {args args' : List Value} {v : Value} (hr : runK (Env.of P eqs clone) n f args h ids cls = some (v, h')) (s : Sim P.globals.size n0 ρ h w) (hv : VRs ρ args args') :
    Calls P f ⟨args'⟩ w fun e w' => ∃ v', e = .returned v' ∧ Post P.globals.size n0 ρ h w h' v v' w' := by
  unfold runK at hr
  rw [om_some] at hr
  obtain ⟨⟨u, h1⟩, hc, hr⟩ := hr
  injection hr with e1 e2; subst e1; subst e2
  refine ((callN_ok ok (draw_ok ok) n f args h _ h1 hc).2 ρ w args' s hv).mono fun e w' ⟨v', he, ρ', s', st', hv'⟩ => ⟨v', he, ρ', s'.kept, st'.kept, hv'⟩
end
end Go.Ev
