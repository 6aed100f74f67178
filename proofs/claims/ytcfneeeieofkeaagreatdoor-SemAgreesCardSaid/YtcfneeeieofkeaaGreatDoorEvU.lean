/- A part of an evaluator of runs, and that it is right. -/
import Derived.Test.YtcfneeeieofkeaaGreatDoorEvQ
import Derived.Below
set_option linter.unusedVariables false
set_option linter.unusedSimpArgs false
open Go.RowKit
set_option linter.unusedSectionVars false
namespace Go.Ev
variable [Den]

/-- a memory that holds nothing but rows that are only read -/
noncomputable def roB : List (Nat × List Value) → T Blk
  | [] => .leaf
  | p :: l => (roB l).set p.1 (.ro (T.ofList p.2))
theorem roB_get : ∀ {l : List (Nat × List Value)} {b : Nat} {x : Blk}, (roB l).get b = some x → ∃ p ∈ l, b = p.1 ∧ x = .ro (T.ofList p.2) := by
  intro l
  induction l with
  | nil => intro b x h; cases h
  | cons p l ih =>
    intro b x h
    rcases T.get_set h with ⟨e, h⟩ | ⟨_, h⟩
    · exact ⟨p, by simp, e, h.symm⟩
    · obtain ⟨q, h1, h2⟩ := ih h; exact ⟨q, by simp [h1], h2⟩
noncomputable def roH (next : Nat) (l : List (Nat × List Value)) : H := ⟨next, roB l, .leaf⟩

/-- a closed run that answers true, seen as a call -/
def isT : Option (Value × H) → Bool
  | some (.bool true, _) => true
  | _ => false

section
variable {P : Program} {eqs : List Nat} {clone : Nat} {w : World}

theorem roSimN {next n0 : Nat} {l : List (Nat × List Value)} (hn : P.globals.size ≤ next) (hw0 : P.globals.size ≤ n0) (h0 : LowOk n0 w)
    (hl : ∀ p ∈ l, p.1 < P.globals.size ∧ flatL p.2 = true ∧ ∀ (o : Nat) (u : Value), p.2[o]? = some u → w.cell? ⟨p.1, o, none⟩ = some u) :
    Sim P.globals.size n0 ⟨fun i => if i < P.globals.size then some (i, 0) else none, fun _ => 0⟩ (roH next l) w := by
  have hw : P.globals.size ≤ w.heap.size := Nat.le_trans hw0 h0.size
  have gl : ∀ {i : Nat} {p : Nat × Nat}, (if i < P.globals.size then some (i, 0) else none) = some p → i < P.globals.size ∧ p = (i, 0) := by
    intro i p h
    split at h
    · injection h with h; exact ⟨‹_›, h.symm⟩
    · cases h
  have noc : ∀ {b x}, (roH next l).bl.get b = some x → isWr x = true → False := by
    intro b x h hx
    obtain ⟨p, _, _, e⟩ := roB_get h
    subst e; cases hx
  refine ⟨fun i p h => ?_, fun i B base h => ?_, fun b t c B base h => (noc h rfl).elim, fun g hg => if_pos hg, h0, fun b t c h => (noc h rfl).elim, fun b t h => ?_, fun b es k h => (noc h rfl).elim, fun b m s sn st h => (noc h rfl).elim,
    fun b t c b' t' c' B base base' h => (noc h rfl).elim, fun b t c l h => (noc h rfl).elim, fun b t c h => (noc h rfl).elim, fun b x b' x' B base base' h _ ho => (noc h (isObj_wr ho)).elim⟩
  · have := (gl h).1
    show i < next
    omega
  · obtain ⟨h1, h2⟩ := gl h
    injection h2 with h2 h3; subst h2; omega
  · obtain ⟨p, hp, e1, e2⟩ := roB_get h
    injection e2 with e2; subst e2; subst e1
    obtain ⟨k1, k2, k3⟩ := hl p hp
    refine ⟨p.1, if_pos k1, by omega, fun o v hv => ?_⟩
    have hv2 := T.get_ofList hv
    refine ⟨v, k3 o v hv2, flat1_VR ?_⟩
    clear k3 hp h hv
    revert hv2
    generalize p.2 = q at k2
    intro hv
    induction q generalizing o with
    | nil => simp at hv
    | cons u q ih =>
      simp only [flatL, bi_tf] at k2
      cases o with
      | zero => simp at hv; subst hv; exact k2.1
      | succ o => simp at hv; exact ih o k2.2 hv

theorem roSim {next : Nat} {l : List (Nat × List Value)} (hn : P.globals.size ≤ next) (hw : P.globals.size ≤ w.heap.size) (h0 : LowOk w.heap.size w)
    (hl : ∀ p ∈ l, p.1 < P.globals.size ∧ flatL p.2 = true ∧ ∀ (o : Nat) (u : Value), p.2[o]? = some u → w.cell? ⟨p.1, o, none⟩ = some u) :
    Sim P.globals.size w.heap.size ⟨fun i => if i < P.globals.size then some (i, 0) else none, fun _ => 0⟩ (roH next l) w := roSimN hn hw h0 hl
theorem run_true (ok : Ok P eqs clone) {n f next : Nat} {l : List (Nat × List Value)} (hn : P.globals.size ≤ next) (hw : P.globals.size ≤ w.heap.size) (h0 : LowOk w.heap.size w)
    (hl : ∀ p ∈ l, p.1 < P.globals.size ∧ flatL p.2 = true ∧ ∀ (o : Nat) (u : Value), p.2[o]? = some u → w.cell? ⟨p.1, o, none⟩ = some u)
    (hr : isT (callN (Env.of P eqs clone) n f [] (roH next l)) = true) : Calls P f #[] w fun e w' => e = .returned (.bool true) ∧ Below w.heap.size w w' := by
  cases hc : callN (Env.of P eqs clone) n f [] (roH next l) with
  | none => rw [hc] at hr; cases hr
  | some r =>
    obtain ⟨v, h'⟩ := r
    rw [hc] at hr
    have hv : v = .bool true := by
      unfold isT at hr
      split at hr
      · rename_i hxy; injection hxy with hxy; injection hxy
      · cases hr
    subst hv
    have hs := roSim (next := next) hn hw h0 hl
    have := (callN_ok ok (draw_ok ok) n f [] (roH next l) _ h' hc).2 _ w [] hs .nil
    refine this.mono fun e w' ⟨v', he, ρ', s', st', hv'⟩ => ?_
    subst he
    refine ⟨by cases hv'; rfl, ?_⟩
    refine ⟨st'.os, st'.tape, st'.output, st'.size, fun B hB => st'.keep B hB ?_⟩
    rintro ⟨b, base, x, h1, h2, _⟩
    obtain ⟨p, _, _, e⟩ := roB_get h1
    subst e; cases h2
end
end Go.Ev
