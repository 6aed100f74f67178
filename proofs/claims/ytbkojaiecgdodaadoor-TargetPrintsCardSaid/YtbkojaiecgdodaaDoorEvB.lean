/- A part of an evaluator of runs, and that it is right. -/
import Derived.Test.YtbkojaiecgdodaaDoorEvA
namespace Go.Ev

theorem ob_some {α β : Type} {o : Option α} {f : α → Option β} {b : β} : ob o f = some b ↔ ∃ a, o = some a ∧ f a = some b := by
  cases o <;> simp [ob]
theorem om_some {α β : Type} {o : Option α} {f : α → β} {b : β} : om o f = some b ↔ ∃ a, o = some a ∧ f a = b := by
  cases o <;> simp [om]
@[simp] theorem bi_true {α : Type} (x y : α) : bi true x y = x := rfl
@[simp] theorem bi_false {α : Type} (x y : α) : bi false x y = y := rfl
theorem bi_eq {α : Type} (b : Bool) (x y : α) : bi b x y = if b = true then x else y := by cases b <;> rfl
theorem bi_some_none {α : Type} {b : Bool} {x : Option α} {a : α} : bi b x none = some a ↔ b = true ∧ x = some a := by cases b <;> simp
theorem bi_none_some {α : Type} {b : Bool} {x : Option α} {a : α} : bi b none x = some a ↔ b = false ∧ x = some a := by cases b <;> simp
theorem bi_tf {b : Bool} {x : Bool} : bi b x false = true ↔ b = true ∧ x = true := by cases b <;> simp

namespace T
variable {α : Type}
theorem get_leaf (k : Nat) : (leaf : T α).get k = none := rfl
theorem get_zero (v : Option α) (l r : T α) : (node v l r).get 0 = v := rfl
theorem get_succ (v : Option α) (l r : T α) (n : Nat) : (node v l r).get (n + 1) = if n % 2 = 0 then l.get (n / 2) else r.get (n / 2) := by
  show (Nat.rec (motive := fun _ => Option α) (l.get (n / 2)) (fun _ _ => r.get (n / 2)) (n % 2)) = _
  cases n % 2 with
  | zero => exact (if_pos rfl).symm
  | succ m => exact (if_neg (Nat.succ_ne_zero m)).symm
theorem single_zero (a : Option α) (f : Nat) : single a (f + 1) 0 = .node a .leaf .leaf := rfl
theorem single_succ (a : Option α) (f n : Nat) : single a (f + 1) (n + 1) = if n % 2 = 0 then .node none (single a f (n / 2)) .leaf else .node none .leaf (single a f (n / 2)) := by
  show (Nat.rec (motive := fun _ => T α) (.node none (single a f (n / 2)) .leaf) (fun _ _ => .node none .leaf (single a f (n / 2))) (n % 2)) = _
  cases n % 2 with
  | zero => exact (if_pos rfl).symm
  | succ m => exact (if_neg (Nat.succ_ne_zero m)).symm
theorem put_leaf (a : Option α) (k : Nat) : put a .leaf k = single a 80 k := rfl
theorem put_zero (a v : Option α) (l r : T α) : put a (.node v l r) 0 = .node a l r := rfl
theorem put_succ (a v : Option α) (l r : T α) (n : Nat) : put a (.node v l r) (n + 1) = if n % 2 = 0 then .node v (put a l (n / 2)) r else .node v l (put a r (n / 2)) := by
  show (Nat.rec (motive := fun _ => T α) (.node v (put a l (n / 2)) r) (fun _ _ => .node v l (put a r (n / 2))) (n % 2)) = _
  cases n % 2 with
  | zero => exact (if_pos rfl).symm
  | succ m => exact (if_neg (Nat.succ_ne_zero m)).symm
theorem get_single (a : Option α) : ∀ (f k j : Nat) (v : α), (single a f k).get j = some v → j = k ∧ a = some v := by
  intro f
  induction f with
  | zero => intro k j v h; exact nomatch h
  | succ f ih =>
    intro k j v h
    cases k with
    | zero =>
      rw [single_zero] at h
      cases j with
      | zero => exact ⟨rfl, h⟩
      | succ n => rw [get_succ] at h; split at h <;> exact nomatch h
    | succ k =>
      rw [single_succ] at h
      split at h
      · cases j with
        | zero => exact nomatch h
        | succ n =>
          rw [get_succ] at h
          split at h
          · obtain ⟨h1, h2⟩ := ih _ _ _ h; exact ⟨by omega, h2⟩
          · exact nomatch h
      · cases j with
        | zero => exact nomatch h
        | succ n =>
          rw [get_succ] at h
          split at h
          · exact nomatch h
          · obtain ⟨h1, h2⟩ := ih _ _ _ h; exact ⟨by omega, h2⟩
theorem get_put (a : Option α) : ∀ (t : T α) (k j : Nat) (v : α), (t.put a k).get j = some v → (j = k ∧ a = some v) ∨ (j ≠ k ∧ t.get j = some v) := by
  intro t
  induction t with
  | leaf => intro k j v h; rw [put_leaf] at h; exact Or.inl (get_single a _ _ _ _ h)
  | node x l r il ir =>
    intro k j v h
    cases k with
    | zero =>
      rw [put_zero] at h
      cases j with
      | zero => exact Or.inl ⟨rfl, h⟩
      | succ n => right; rw [get_succ] at h ⊢; exact ⟨by omega, h⟩
    | succ k =>
      rw [put_succ] at h
      cases j with
      | zero => right; refine ⟨by omega, ?_⟩; split at h <;> exact h
      | succ n =>
        split at h <;> rw [get_succ] at h <;> rw [get_succ]
        · split at h
          · rename_i h1 h2
            rcases il _ _ _ h with ⟨h3, h4⟩ | ⟨h3, h4⟩
            · exact Or.inl ⟨by omega, h4⟩
            · right; rw [if_pos h2]; exact ⟨by omega, h4⟩
          · rename_i h1 h2
            right; rw [if_neg h2]; exact ⟨by omega, h⟩
        · split at h
          · rename_i h1 h2
            right; rw [if_pos h2]; exact ⟨by omega, h⟩
          · rename_i h1 h2
            rcases ir _ _ _ h with ⟨h3, h4⟩ | ⟨h3, h4⟩
            · exact Or.inl ⟨by omega, h4⟩
            · right; rw [if_neg h2]; exact ⟨by omega, h4⟩
theorem get_set {t : T α} {k j : Nat} {a v : α} (h : (t.set k a).get j = some v) : (j = k ∧ a = v) ∨ (j ≠ k ∧ t.get j = some v) := by
  rcases get_put _ _ _ _ _ h with ⟨h1, h2⟩ | h
  · exact Or.inl ⟨h1, by injection h2⟩
  · exact Or.inr h
theorem get_del {t : T α} {k j : Nat} {v : α} (h : (t.del k).get j = some v) : j ≠ k ∧ t.get j = some v := by
  rcases get_put _ _ _ _ _ h with ⟨_, h2⟩ | h
  · exact nomatch h2
  · exact h
theorem setL_nil (k : Nat) (t : T α) : setL [] k t = t := rfl
theorem setL_cons (a : α) (l : List α) (k : Nat) (t : T α) : setL (a :: l) k t = setL l (k + 1) (t.set k a) := rfl
theorem get_setL : ∀ (l : List α) (k : Nat) (t : T α) (j : Nat) (v : α), (setL l k t).get j = some v →
    (k ≤ j ∧ l[j - k]? = some v) ∨ (¬ (k ≤ j ∧ j < k + l.length) ∧ t.get j = some v) := by
  intro l
  induction l with
  | nil => intro k t j v h; exact Or.inr ⟨by simp, h⟩
  | cons a l ih =>
    intro k t j v h
    rw [setL_cons] at h
    rcases ih _ _ _ _ h with ⟨h1, h2⟩ | ⟨h1, h2⟩
    · left; refine ⟨by omega, ?_⟩
      have : j - k = (j - (k + 1)) + 1 := by omega
      rw [this]; simpa using h2
    · rcases get_set h2 with ⟨h3, h4⟩ | ⟨h3, h4⟩
      · left; subst h3; subst h4; simp
      · right; refine ⟨?_, h4⟩; simp at h1 ⊢; omega
theorem get_setO : ∀ (l : List (Option α)) (k : Nat) (t : T α) (j : Nat) (v : α), (setO l k t).get j = some v →
    (k ≤ j ∧ l[j - k]? = some (some v)) ∨ (¬ (k ≤ j ∧ j < k + l.length) ∧ t.get j = some v) := by
  intro l
  induction l with
  | nil => intro k t j v h; exact Or.inr ⟨by simp, h⟩
  | cons a l ih =>
    intro k t j v h
    have h : (setO l (k + 1) (put a t k)).get j = some v := h
    rcases ih _ _ _ _ h with ⟨h1, h2⟩ | ⟨h1, h2⟩
    · left; refine ⟨by omega, ?_⟩
      have : j - k = (j - (k + 1)) + 1 := by omega
      rw [this]; simpa using h2
    · rcases get_put _ _ _ _ _ h2 with ⟨h3, h4⟩ | ⟨h3, h4⟩
      · left; subst h3; simp [h4]
      · right; refine ⟨?_, h4⟩; simp at h1 ⊢; omega
theorem get_ofList {l : List α} {j : Nat} {v : α} (h : (ofList l).get j = some v) : l[j]? = some v := by
  rcases get_setL _ _ _ _ _ h with ⟨_, h⟩ | ⟨_, h⟩
  · simpa using h
  · exact nomatch h
theorem get_ofListO {l : List (Option α)} {j : Nat} {v : α} (h : (ofListO l).get j = some v) : l[j]? = some (some v) := by
  rcases get_setO _ _ _ _ _ h with ⟨_, h⟩ | ⟨_, h⟩
  · simpa using h
  · exact nomatch h
end T

theorem getN_zero (t : T Value) (o : Nat) : getN t 0 o = some [] := rfl
theorem getN_succ (t : T Value) (n o : Nat) : getN t (n + 1) o = ob (t.get o) fun v => om (getN t n (o + 1)) fun vs => v :: vs := rfl
theorem getN_get {t : T Value} : ∀ {n o : Nat} {l : List Value}, getN t n o = some l → l.length = n ∧ ∀ i v, l[i]? = some v → t.get (o + i) = some v := by
  intro n
  induction n with
  | zero => intro o l h; rw [getN_zero] at h; cases h; exact ⟨rfl, fun i v h => by simp at h⟩
  | succ n ih =>
    intro o l h
    rw [getN_succ, ob_some] at h
    obtain ⟨v, h1, h⟩ := h
    rw [om_some] at h
    obtain ⟨vs, h2, rfl⟩ := h
    obtain ⟨h3, h4⟩ := ih h2
    refine ⟨by simp [h3], fun i u hi => ?_⟩
    cases i with
    | zero => simp at hi; subst hi; exact h1
    | succ i => simp at hi; have := h4 i u hi; rwa [Nat.add_assoc, Nat.add_comm 1] at this

-- facts on the program
variable [DenD]
theorem ty_spec {P : Program} {eqs : List Nat} {clone : Sp} {t : Nat} {r : TR} (h : (Env.of P eqs clone).ty.get t = some r) :
    ∃ i, P.info? t = some i ∧ P.underlying t = some r.u ∧ i.size = r.size ∧ i.zero = r.zero ∧ i.bytes = r.bytes := by
  have h := T.get_ofListO h
  simp only [List.getElem?_map, Option.map_eq_some_iff] at h
  obtain ⟨i, h1, h2⟩ := h
  have h1 : P.types[t]? = some i := by simpa using h1
  have hlt : t < P.types.size := (Array.getElem?_eq_some_iff.1 h1).1
  have hi : P.info? t = some i := by simp only [Tables.info?, hlt, if_true]; exact h1
  unfold trOf at h2
  split at h2
  · rename_i n u hd
    rw [om_some] at h2
    obtain ⟨j, hj, rfl⟩ := h2
    have hj' : P.types[u]? = some j := by simpa using hj
    have hu : u < P.types.size := (Array.getElem?_eq_some_iff.1 hj').1
    have hui : P.info? u = some j := by simp only [Tables.info?, hu, if_true]; exact hj'
    refine ⟨i, hi, ?_, rfl, rfl, rfl⟩
    obtain ⟨desc, str, size, bytes, hp, al, fa, z, cmp, ms⟩ := i
    simp only at hd; subst hd
    simp only [Program.underlying, hi, hui, Option.map_some]
  · rename_i hd
    injection h2 with h2; subst h2
    refine ⟨i, hi, ?_, rfl, rfl, rfl⟩
    obtain ⟨desc, str, size, bytes, hp, al, fa, z, cmp, ms⟩ := i
    simp only [Program.underlying, hi]
    split
    · rename_i h; injection h with h; injection h with h; exact absurd h (hd _ _)
    · rename_i h; injection h with h; subst h; rfl
    · rename_i h; cases h
theorem ty_cmp {P : Program} {eqs : List Nat} {clone : Sp} {t : Nat} {r : TR} (h : (Env.of P eqs clone).ty.get t = some r) : ∃ i, P.info? t = some i ∧ i.comparable = r.cmp := by
  have h := T.get_ofListO h
  simp only [List.getElem?_map, Option.map_eq_some_iff] at h
  obtain ⟨i, h1, h2⟩ := h
  have h1 : P.types[t]? = some i := by simpa using h1
  have hlt : t < P.types.size := (Array.getElem?_eq_some_iff.1 h1).1
  have hi : P.info? t = some i := by simp only [Tables.info?, hlt, if_true]; exact h1
  refine ⟨i, hi, ?_⟩
  unfold trOf at h2
  split at h2
  · rw [om_some] at h2
    obtain ⟨j, hj, rfl⟩ := h2
    rfl
  · injection h2 with h2; subst h2; rfl
theorem fn_spec {P : Program} {eqs : List Nat} {clone : Sp} {f : Nat} {fn : Func} (h : (Env.of P eqs clone).fn.get f = some fn) : P.funcs[f]? = some fn := by
  have h := T.get_ofList h
  simpa using h
end Go.Ev
