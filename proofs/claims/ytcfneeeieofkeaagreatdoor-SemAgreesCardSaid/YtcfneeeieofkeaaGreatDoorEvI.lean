/- A part of an evaluator of runs, and that it is right. -/
import Derived.Test.YtcfneeeieofkeaaGreatDoorEvH
set_option linter.unusedVariables false
set_option linter.unusedSimpArgs false
set_option linter.unusedSectionVars false
namespace Go.Ev
variable [Den]

theorem T.single_ne {α : Type} (a : Option α) (f k j : Nat) (hj : j ≠ k) : (T.single a f k).get j = none := by
  cases h : (T.single a f k).get j with
  | none => rfl
  | some v => exact absurd (T.get_single a f k j v h).1 hj
theorem T.put_ne {α : Type} (a : Option α) : ∀ (t : T α) (k j : Nat), j ≠ k → (t.put a k).get j = t.get j := by
  intro t
  induction t with
  | leaf => intro k j hj; rw [T.put_leaf, T.single_ne a _ _ _ hj]; rfl
  | node x l r il ir =>
    intro k j hj
    cases k with
    | zero =>
      rw [T.put_zero]
      cases j with
      | zero => exact absurd rfl hj
      | succ n => rw [T.get_succ, T.get_succ]
    | succ k =>
      rw [T.put_succ]
      cases j with
      | zero => split <;> rfl
      | succ n =>
        split <;> rw [T.get_succ, T.get_succ]
        · rename_i h1
          split
          · rename_i h2; exact il _ _ (by omega)
          · rfl
        · rename_i h1
          split
          · rfl
          · rename_i h2; exact ir _ _ (by omega)

section
variable {P : Program} {eqs : List Nat} {clone : Nat} {n0 N : Nat} {ρ : Rho} {h : H} {α β α2 : A} {a : Act} {w w' : World}

-- what an operation does hangs on its operands alone
def Alike (E : Env) (α β : A) (o : Op) : Prop := ∀ x, x ∈ o.operands → opv x E α = opv x E β

theorem opvs_congr {E : Env} {l : List Operand} (hx : ∀ x ∈ l, opv x E α = opv x E β) : opvs E α l = opvs E β l := by
  induction l with
  | nil => rfl
  | cons x l ih => rw [opvs_cons, opvs_cons, hx x (by simp), ih fun y hy => hx y (by simp [hy])]
theorem partsE_congr {E : Env} {l : List (Nat × Operand)} (hx : ∀ p ∈ l, opv p.2 E α = opv p.2 E β) : partsE E α l = partsE E β l := by
  induction l with
  | nil => rfl
  | cons x l ih => rw [partsE_cons, partsE_cons, hx x (by simp), ih fun y hy => hx y (by simp [hy])]
theorem oopv_congr {E : Env} {x : Option Operand} (hx : ∀ y, x = some y → opv y E α = opv y E β) : oopv E α x = oopv E β x := by
  cases x with
  | none => rfl
  | some y => show om (opv y E α) some = om (opv y E β) some; rw [hx y rfl]

theorem pure_congr {E : Env} {op : Op} (hx : Alike E α β op) : pureE op E α = pureE op E β := by
  unfold Alike at hx
  cases op <;> simp only [Op.operands] at hx <;> simp only [pureE] <;> first | rfl | skip
  case move x => exact hx x (by simp)
  case assign x => exact hx x (by simp)
  case pick x y z => unfold pPick; rw [hx x (by simp), hx y (by simp), hx z (by simp)]
  case build t ps => unfold pBuild; rw [partsE_congr fun p hp => hx p.2 (by simp; exact ⟨p.1, by simpa using hp⟩)]
  case nilCheck x => unfold pNil; rw [hx x (by simp)]
  case binOp op t x y u => unfold pBin; rw [hx x (by simp), hx y (by simp)]
  case unOp op t x => unfold pUn; rw [hx x (by simp)]
  case convert s d x => unfold pConv; rw [hx x (by simp)]
  case makeInterface t x => unfold pIface; rw [hx x (by simp)]
  case makeFunc fn x y => unfold pFunc; rw [opvs_congr fun z hz => hx z (by simp; exact Or.inl (by simpa using hz)), opvs_congr fun z hz => hx z (by simp; exact Or.inr (by simpa using hz))]
  case slice t x lo hi mx =>
    unfold pSlice
    rw [hx x (by simp), oopv_congr fun y hy => hx y (by subst hy; simp), oopv_congr fun y hy => hx y (by subst hy; simp), oopv_congr fun y hy => hx y (by subst hy; simp)]
  case fieldAddr t x i => unfold pFieldAddr; rw [hx x (by simp)]
  case field t x i => unfold pField; rw [hx x (by simp)]
  case indexAddr t x i => unfold pIndexAddr; rw [hx x (by simp), hx i (by simp)]
  case index t x i => unfold pIndex; rw [hx x (by simp), hx i (by simp)]
  case typeAssert x s t ok => unfold pAssert; rw [hx x (by simp)]
  case extract x i => unfold pExtract; rw [hx x (by simp)]
  case call k => unfold pCall; rw [opvs_congr fun z hz => hx z (by simp [Call.operands]; exact Or.inr (by simpa using hz))]
theorem read_congr {E : Env} {op : Op} (hx : Alike E α β op) : readE op E α h = readE op E β h := by
  unfold Alike at hx
  cases op <;> simp only [Op.operands] at hx <;> simp only [readE] <;> first | rfl | skip
  case load t x => unfold rLoad; rw [hx x (by simp)]
  case lookup t x k ok => unfold rLookup; rw [hx x (by simp), hx k (by simp)]
  case entry x => unfold rEntry; rw [hx x (by simp)]
theorem alloc_congr {E : Env} {op : Op} (hx : Alike E α β op) : allocE op E α = allocE op E β := by
  unfold Alike at hx
  cases op <;> simp only [Op.operands] at hx <;> simp only [allocE] <;> first | rfl | skip
  case box t x => unfold aBox; rw [hx x (by simp)]
  case buildSlice t n ps => unfold aSlice; rw [partsE_congr fun p hp => hx p.2 (by simp; exact ⟨p.1, by simpa using hp⟩)]
  case makeSlice t l c => unfold aMake; rw [hx l (by simp), hx c (by simp)]
theorem loud_congr {E : Env} {cl : CallT} {op : Op} (hx : Alike E α β op) : loudE op E cl α h = loudE op E cl β h := by
  unfold Alike at hx
  cases op <;> simp only [Op.operands] at hx <;> simp only [loudE] <;> first | rfl | skip
  case store t x y => unfold lStore; rw [hx x (by simp), hx y (by simp)]
  case mapUpdate t m k x => unfold lUpdate; rw [hx m (by simp), hx k (by simp), hx x (by simp)]
  case insert t m k x => unfold lUpdate; rw [hx m (by simp), hx k (by simp), hx x (by simp)]
  case range t x => unfold lRange; rw [hx x (by simp)]
  case next x b => unfold lNext; rw [hx x (by simp)]
  case call k =>
    unfold lCall
    rw [opvs_congr fun z hz => hx z (by simp [Call.operands]; exact Or.inr (by simpa using hz))]
    obtain ⟨cal, args, ts⟩ := k
    cases cal with
    | value f => simp only; rw [hx f (by simp [Call.operands])]
    | invoke r m => rfl
    | builtin b => cases b <;> rfl
theorem defer_congr {E : Env} {op : Op} (hx : Alike E α β op) (hd : deferE op E α = some α2) : ∃ f args, α2 = ⟨α.t, (f, args) :: α.d⟩ ∧ deferE op E β = some ⟨β.t, (f, args) :: β.d⟩ := by
  unfold Alike at hx
  unfold deferE at hd ⊢
  split at hd
  · rename_i c
    split at hd
    · rename_i f hcal
      rw [ob_some] at hd
      obtain ⟨args, hargs, hd⟩ := hd
      rw [ob_some] at hd
      obtain ⟨fv, hf, hd⟩ := hd
      have h1 : opvs E β c.args.toList = some args := by
        rw [← hargs]; exact (opvs_congr fun z hz => hx z (by simp only [Op.operands, Call.operands]; simp; exact Or.inr (by simpa using hz))).symm
      have h2 : opv f E β = some fv := by
        rw [← hf]; exact (hx f (by simp only [Op.operands, Call.operands, hcal]; simp)).symm
      split at hd
      · rename_i g fa fb
        injection hd with hd; subst hd
        exact ⟨_, _, rfl, by simp only [hcal, h1, h2, ob]⟩
      · cases hd
    · cases hd
  · cases hd
end
end Go.Ev
