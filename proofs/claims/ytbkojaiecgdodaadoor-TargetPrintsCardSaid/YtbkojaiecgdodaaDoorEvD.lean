/- A part of an evaluator of runs, and that it is right. -/
import Derived.Test.YtbkojaiecgdodaaDoorEvC
set_option linter.unusedVariables false
set_option linter.unusedSimpArgs false
set_option linter.unusedSectionVars false
namespace Go.Ev
variable [Den]
section
variable {P : Program} {eqs : List Nat} {clone : Sp} {n0 ng : Nat} {ρ : Rho} {h : H} {α : A} {a : Act} {w w' : World}

theorem natIn_eq (n : Nat) (l : List Nat) : natIn n l = l.contains n := by
  induction l with
  | nil => rfl
  | cons a l ih =>
    simp only [natIn, bi_eq, ih, List.contains_cons]
    by_cases h : a = n
    · subst h; simp
    · have : ¬ n = a := fun e => h e.symm
      simp [h, this]
theorem leftE_sound {seen : List Nat} {es : List (Value × Value × Nat)} {es' : List MapEntry} (he : ER ρ es es') : ER ρ (leftE seen es) (es'.filter fun e => !seen.contains e.born) := by
  induction he with
  | nil => exact .nil
  | cons k1 v1 k2 v2 n l m hk hv hl ih =>
    simp only [leftE, bi_eq, natIn_eq]
    by_cases h : seen.contains n = true
    · rw [if_pos h, List.filter_cons_of_neg (by simpa using h)]; exact ih
    · rw [if_neg h, List.filter_cons_of_pos (by simpa using h)]
      exact .cons _ _ _ _ _ _ _ hk hv ih
theorem ER.all {es : List (Value × Value × Nat)} {es' : List MapEntry} (he : ER ρ es es') (last : Nat) : (es'.all fun e => decide (e.born ≥ last)) = es.all fun x => Nat.ble last x.2.2 := by
  induction he with
  | nil => rfl
  | cons k1 v1 k2 v2 n l m hk hv hl ih =>
    simp only [List.all_cons, ih]
    congr 1
    rw [Bool.eq_iff_iff]; simp
theorem ER.isEmpty {es : List (Value × Value × Nat)} {es' : List MapEntry} (he : ER ρ es es') : es'.isEmpty = es.isEmpty := by cases he <;> rfl
theorem ER.length {es : List (Value × Value × Nat)} {es' : List MapEntry} (he : ER ρ es es') : es.length = es'.length := by
  induction he with
  | nil => rfl
  | cons k1 v1 k2 v2 n l m hk hv hl ih => simp [ih]

theorem next_over {P : Program} {w : World} {B M sn st clock : Nat} {seen : List Nat} {es' : List MapEntry} {ty : TypeId} (h1 : w.heap[B]? = some (.mapIter (some M) sn ⟨seen⟩ st)) (h2 : w.heap[M]? = some (.map ⟨es'⟩ clock))
    (hc : (!seen.isEmpty && !es'.isEmpty && es'.all fun e => decide (e.born ≥ st)) = false) (hl : (es'.filter fun e => !seen.contains e.born) = []) :
    (Instr.next (.pointer (some ⟨B, 0, none⟩)) false ty).run P w = .ok (.tuple #[.bool false]) w := by
  have g1 : (getObj B).run P w = .ok (.mapIter (some M) sn ⟨seen⟩ st) w := by simp [getObj, Sem.run, h1]
  have g2 : (getObj M).run P w = .ok (.map ⟨es'⟩ clock) w := by simp [getObj, Sem.run, h2]
  have hf : (⟨es'⟩ : Array MapEntry).filter (fun e => !(⟨seen⟩ : Array Nat).contains e.born) = #[] := by
    apply Array.ext'
    rw [Array.toList_filter]
    simpa using hl
  have hc' : (!(⟨seen⟩ : Array Nat).isEmpty && !(⟨es'⟩ : Array MapEntry).isEmpty && (⟨es'⟩ : Array MapEntry).all fun e => decide (e.born ≥ st)) = false := by
    simpa using hc
  have hq : (Question.mapNext 1).forced = true := rfl
  simp only [Instr.next, Sem.run_bind, g1, Result.andThen_ok, g2, hc', hf, Bool.false_eq_true, if_false]
  simp [hq]
theorem next_one {P : Program} {w : World} {B M sn st clock : Nat} {es' : List MapEntry} {e : MapEntry} {ty : TypeId} (h1 : w.heap[B]? = some (.mapIter (some M) sn ⟨[]⟩ st)) (h2 : w.heap[M]? = some (.map ⟨es'⟩ clock))
    (hl : (es'.filter fun e => !([] : List Nat).contains e.born) = [e]) (hb : e.born < sn) :
    (Instr.next (.pointer (some ⟨B, 0, none⟩)) false ty).run P w = .ok (.tuple #[.bool true, e.key, e.val]) { w with heap := w.heap.setIfInBounds B (.mapIter (some M) sn ⟨[e.born]⟩ clock) } := by
  have g1 : (getObj B).run P w = .ok (.mapIter (some M) sn ⟨[]⟩ st) w := by simp [getObj, Sem.run, h1]
  have g2 : (getObj M).run P w = .ok (.map ⟨es'⟩ clock) w := by simp [getObj, Sem.run, h2]
  have hset : ∀ o, (setObj B o).run P w = .ok () { w with heap := w.heap.setIfInBounds B o } := fun o => by simp [setObj, Sem.run, h1]
  have hf : (⟨es'⟩ : Array MapEntry).filter (fun e => !(⟨[]⟩ : Array Nat).contains e.born) = #[e] := by
    apply Array.ext'
    rw [Array.toList_filter]
    simpa using hl
  have hc' : (!(⟨[]⟩ : Array Nat).isEmpty && !(⟨es'⟩ : Array MapEntry).isEmpty && (⟨es'⟩ : Array MapEntry).all fun e => decide (e.born ≥ st)) = false := rfl
  have hq : (Question.mapNext 1).forced = true := rfl
  have hnb : ¬ e.born ≥ sn := by omega
  simp only [Instr.next, Sem.run_bind, g1, Result.andThen_ok, g2, hc', hf, Bool.false_eq_true, if_false]
  simp [hq, hb, hnb, hset]

theorem next_sound (c : Ctx P eqs ρ α a) (s : Sim ng n0 ρ h w) {x : Operand} {isS : Bool} {ty : TypeId} {cl : CallT} {v : Value} {h' : H} (hl : lNext x isS (Env.of P eqs clone) cl α h = some (v, h')) :
    ∃ v' w', (Instr.next (a.eval x) isS ty).run P w = .ok v' w' ∧ Post ng n0 ρ h w h' v v' w' := by
  unfold lNext at hl
  rw [bi_none_some, ob_some] at hl
  obtain ⟨hS, p, hp, hl⟩ := hl
  subst hS
  have hp' := c.opv hp
  clear hp
  generalize a.eval x = ex at *
  split at hl
  · rename_i b
    rw [ob_some] at hl
    obtain ⟨y, hy, hl⟩ := hl
    cases hp' with
    | ptr b o B base hb =>
    split at hl
    · rename_i sn seen st
      injection hl with hl; injection hl with e1 e2; subst e1; subst e2
      obtain ⟨B', k1, k2, k3⟩ := s.iters _ _ _ _ _ hy
      rw [hb] at k1; injection k1 with k1; injection k1 with e1 e2; subst e1; subst e2
      rcases k3 with ⟨_, k3⟩ | ⟨_, _, k3, _⟩
      · have g1 : (getObj B).run P w = .ok (.mapIter none sn ⟨seen⟩ st) w := by simp [getObj, Sem.run, k3]
        exact ⟨.tuple #[.bool false], w, by simp [Instr.next, g1], ρ, s, Step.refl _ _ _, .tuple _ _ (.cons _ _ _ _ (.bool _) .nil)⟩
      · cases k3
    · rename_i m sn seen st
      rw [ob_some] at hl
      obtain ⟨e, he, hl⟩ := hl
      obtain ⟨B', k1, k2, k3⟩ := s.iters _ _ _ _ _ hy
      rw [hb] at k1; injection k1 with k1; injection k1 with e1 e2; subst e1; subst e2
      rcases k3 with ⟨k3, _⟩ | ⟨k, M, k3, k4, k5⟩
      · cases k3
      · injection k3 with k3; subst k3
        obtain ⟨es', q1, q2, _, q3, hER⟩ := mapAt_sound s k4 he
        have hleft := leftE_sound (seen := seen) hER
        split at hl
        · rename_i hle
          rw [hle] at hleft
          have hnil : (es'.filter fun e => !seen.contains e.born) = [] := by
            generalize (es'.filter fun e => !seen.contains e.born) = q at *
            cases hleft; rfl
          have fin : (!seen.isEmpty && !es'.isEmpty && es'.all fun e => decide (e.born ≥ st)) = false → v = .tuple #[.bool false] → h' = h →
              ∃ v' w', (Instr.next (.pointer (some ⟨B, 0 + 0, none⟩)) false ty).run P w = .ok v' w' ∧ Post ng n0 ρ h w h' v v' w' := by
            intro hc hv hh
            subst hv; subst hh
            exact ⟨_, w, next_over k5 q3 hc hnil, ρ, s, Step.refl _ _ _, .tuple _ _ (.cons _ _ _ _ (.bool _) .nil)⟩
          split at hl
          · rename_i hem
            injection hl with hl; injection hl with e1 e2
            refine fin ?_ e1.symm e2.symm
            rw [hER.isEmpty, hem]; simp
          · rename_i hem
            injection hl with hl; injection hl with e1 e2
            refine fin ?_ e1.symm e2.symm
            rw [hER.isEmpty, hem]; simp
          · rename_i hem
            rw [bi_none_some] at hl
            obtain ⟨hall, hl⟩ := hl
            injection hl with hl; injection hl with e1 e2
            refine fin ?_ e1.symm e2.symm
            rw [hER.all, hall]; simp
        · rename_i x hle
          rw [hle] at hleft
          split at hl
          · rename_i hsn
            rw [bi_some_none] at hl
            obtain ⟨hlt, hl⟩ := hl
            injection hl with hl; injection hl with e1 e2; subst e1; subst e2
            have hlt : x.2.2 < sn := by have := Nat.le_of_ble_eq_true hlt; omega
            generalize hq : (es'.filter fun e => !([] : List Nat).contains e.born) = q at hleft
            cases hleft with
            | cons k1' v1' k2' v2' n l m hk hv hl' =>
              cases hl'
              obtain ⟨s1, s2⟩ := s.set_obj hy rfl hb (x := .it (some m) sn ([] ++ [n]) e.2) (o := .mapIter (some M) sn ⟨[n]⟩ e.2) rfl (fun _ _ he => by cases he)
                (fun m sn seen st he => by injection he with e1 e2 e3 e4; subst e1; subst e2; subst e3; subst e4; exact Or.inr ⟨_, M, rfl, k4, rfl⟩)
              exact ⟨_, _, next_one k5 q3 hq hlt, ρ, s1, s2, .tuple _ _ (.cons _ _ _ _ (.bool _) (.cons _ _ _ _ hk (.cons _ _ _ _ hv .nil)))⟩
          · cases hl
        · cases hl
    · cases hl
  · cases hl
end
end Go.Ev
