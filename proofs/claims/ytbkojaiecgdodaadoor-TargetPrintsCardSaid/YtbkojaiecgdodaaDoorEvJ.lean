/- A part of an evaluator of runs, and that it is right. -/
import Derived.Test.YtbkojaiecgdodaaDoorEvG
section
set_option linter.unusedVariables false
set_option linter.unusedSimpArgs false
set_option linter.unusedSectionVars false
namespace Go.Ev
variable [Den]

theorem T.single_ne {α : Type} (a : Option α) (f k j : Nat) (hj : j ≠ k) : (T.single a f k).get j = none := by
  cases h : (T.single a f k).get j with
  | none => rfl
  | some v => exact absurd (T.get_single a f k j v h).1 hj
theorem T.put_ne {α : Type} (a : Option α) : ∀ (t : T α) (k j : Nat), j ≠ k → (t.put a k).get j = t.get j := by
  intro t
  induction t with
  | leaf => intro k j hj; rw [T.put_leaf, T.single_ne a _ _ _ hj]; rfl
  | node x l r il ir =>
    intro k j hj
    cases k with
    | zero =>
      rw [T.put_zero]
      cases j with
      | zero => exact absurd rfl hj
      | succ n => rw [T.get_succ, T.get_succ]
    | succ k =>
      rw [T.put_succ]
      cases j with
      | zero => split <;> rfl
      | succ n =>
        split <;> rw [T.get_succ, T.get_succ]
        · rename_i h1
          split
          · rename_i h2; exact il _ _ (by omega)
          · rfl
        · rename_i h1
          split
          · rfl
          · rename_i h2; exact ir _ _ (by omega)

section
variable {P : Program} {eqs : List Nat} {clone : Sp} {n0 N : Nat} {ρ : Rho} {h : H} {α β α2 : A} {a : Act} {w w' : World}

-- what an operation does hangs on its operands alone
def Alike (E : Env) (α β : A) (o : Op) : Prop := ∀ x, x ∈ o.operands → opv x E α = opv x E β

theorem opvs_congr {E : Env} {l : List Operand} (hx : ∀ x ∈ l, opv x E α = opv x E β) : opvs E α l = opvs E β l := by
  induction l with
  | nil => rfl
  | cons x l ih => rw [opvs_cons, opvs_cons, hx x (by simp), ih fun y hy => hx y (by simp [hy])]
theorem partsE_congr {E : Env} {l : List (Nat × Operand)} (hx : ∀ p ∈ l, opv p.2 E α = opv p.2 E β) : partsE E α l = partsE E β l := by
  induction l with
  | nil => rfl
  | cons x l ih => rw [partsE_cons, partsE_cons, hx x (by simp), ih fun y hy => hx y (by simp [hy])]
theorem oopv_congr {E : Env} {x : Option Operand} (hx : ∀ y, x = some y → opv y E α = opv y E β) : oopv E α x = oopv E β x := by
  cases x with
  | none => rfl
  | some y => show om (opv y E α) some = om (opv y E β) some; rw [hx y rfl]

theorem knownO_congr {E : Env} {l : List OF} {op : Op} (hx : Alike E α β op) : knownO l op E α = knownO l op E β := by
  unfold knownO
  rw [opvs_congr (E := E) (α := α) (β := β) fun x h => hx x (by simpa using h)]
theorem pure_congr {E : Env} {op : Op} (hx : Alike E α β op) : pureE op E α = pureE op E β := by
  unfold pureE
  rw [knownO_congr hx]
  suffices h : pureE0 op E α = pureE0 op E β by rw [h]
  unfold Alike at hx
  cases op <;> simp only [Op.operands] at hx <;> simp only [pureE0] <;> first | rfl | skip
  case move x => exact hx x (by simp)
  case assign x => exact hx x (by simp)
  case pick x y z => unfold pPick; rw [hx x (by simp), hx y (by simp), hx z (by simp)]
  case build t ps => unfold pBuild; rw [partsE_congr fun p hp => hx p.2 (by simp; exact ⟨p.1, by simpa using hp⟩)]
  case nilCheck x => unfold pNil; rw [hx x (by simp)]
  case binOp op t x y u => unfold pBin; rw [hx x (by simp), hx y (by simp)]
  case unOp op t x => unfold pUn; rw [hx x (by simp)]
  case convert s d x => unfold pConv; rw [hx x (by simp)]
  case makeInterface t x => unfold pIface; rw [hx x (by simp)]
  case makeFunc fn x y => unfold pFunc; rw [opvs_congr fun z hz => hx z (by simp; exact Or.inl (by simpa using hz)), opvs_congr fun z hz => hx z (by simp; exact Or.inr (by simpa using hz))]
  case slice t x lo hi mx =>
    unfold pSlice
    rw [hx x (by simp), oopv_congr fun y hy => hx y (by subst hy; simp), oopv_congr fun y hy => hx y (by subst hy; simp), oopv_congr fun y hy => hx y (by subst hy; simp)]
  case fieldAddr t x i => unfold pFieldAddr; rw [hx x (by simp)]
  case field t x i => unfold pField; rw [hx x (by simp)]
  case indexAddr t x i => unfold pIndexAddr; rw [hx x (by simp), hx i (by simp)]
  case index t x i => unfold pIndex; rw [hx x (by simp), hx i (by simp)]
  case typeAssert x s t ok => unfold pAssert; rw [hx x (by simp)]
  case extract x i => unfold pExtract; rw [hx x (by simp)]
  case call k => unfold pCall; rw [opvs_congr fun z hz => hx z (by simp [Call.operands]; exact Or.inr (by simpa using hz))]
theorem read_congr {E : Env} {op : Op} (hx : Alike E α β op) : readE op E α h = readE op E β h := by
  unfold readE
  rw [knownO_congr hx]
  suffices h : readE0 op E α h = readE0 op E β h by rw [h]
  unfold Alike at hx
  cases op <;> simp only [Op.operands] at hx <;> simp only [readE0] <;> first | rfl | skip
  case load t x => unfold rLoad; rw [hx x (by simp)]
  case lookup t x k ok => unfold rLookup; rw [hx x (by simp), hx k (by simp)]
  case entry x => unfold rEntry; rw [hx x (by simp)]
  case convert s d x => unfold rBytes; rw [hx x (by simp)]
theorem alloc_congr {E : Env} {op : Op} (hx : Alike E α β op) : allocE op E α = allocE op E β := by
  unfold Alike at hx
  cases op <;> simp only [Op.operands] at hx <;> simp only [allocE] <;> first | rfl | skip
  case box t x => unfold aBox; rw [hx x (by simp)]
  case buildSlice t n ps => unfold aSlice; rw [partsE_congr fun p hp => hx p.2 (by simp; exact ⟨p.1, by simpa using hp⟩)]
  case makeSlice t l c => unfold aMake; rw [hx l (by simp), hx c (by simp)]
theorem loud_congr {E : Env} {cl : CallT} {op : Op} (hx : Alike E α β op) : loudE op E cl α h = loudE op E cl β h := by
  unfold Alike at hx
  cases op <;> simp only [Op.operands] at hx <;> simp only [loudE] <;> first | rfl | skip
  case store t x y => unfold lStore; rw [hx x (by simp), hx y (by simp)]
  case mapUpdate t m k x => unfold lUpdate; rw [hx m (by simp), hx k (by simp), hx x (by simp)]
  case insert t m k x => unfold lUpdate; rw [hx m (by simp), hx k (by simp), hx x (by simp)]
  case range t x => unfold lRange; rw [hx x (by simp)]
  case next x b => unfold lNext; rw [hx x (by simp)]
  case convert s d x => unfold lBytes; rw [hx x (by simp)]
  case call k =>
    unfold lCall
    rw [opvs_congr fun z hz => hx z (by simp [Call.operands]; exact Or.inr (by simpa using hz))]
    obtain ⟨cal, args, ts⟩ := k
    cases cal with
    | value f => simp only; rw [hx f (by simp [Call.operands])]
    | invoke r m => rfl
    | builtin b => cases b <;> rfl
theorem defer_congr {E : Env} {op : Op} (hx : Alike E α β op) (hd : deferE op E α = some α2) : ∃ f args, α2 = ⟨α.t, .fn f args :: α.d⟩ ∧ deferE op E β = some ⟨β.t, .fn f args :: β.d⟩ := by
  unfold Alike at hx
  unfold deferE at hd ⊢
  split at hd
  · rename_i c
    split at hd
    · rename_i f hcal
      rw [ob_some] at hd
      obtain ⟨args, hargs, hd⟩ := hd
      rw [ob_some] at hd
      obtain ⟨fv, hf, hd⟩ := hd
      have h1 : opvs E β c.args.toList = some args := by
        rw [← hargs]; exact (opvs_congr fun z hz => hx z (by simp only [Op.operands, Call.operands]; simp; exact Or.inr (by simpa using hz))).symm
      have h2 : opv f E β = some fv := by
        rw [← hf]; exact (hx f (by simp only [Op.operands, Call.operands, hcal]; simp)).symm
      split at hd
      · rename_i g fa fb
        injection hd with hd; subst hd
        exact ⟨_, _, rfl, by simp only [hcal, h1, h2, ob]⟩
      · cases hd
    · cases hd
  · cases hd
end
end Go.Ev
end
section
set_option linter.unusedVariables false
set_option linter.unusedSimpArgs false
set_option linter.unusedSectionVars false
namespace Go.Ev
variable [Den]
section
variable {n0 ng : Nat} {ρ : Rho} {h : H} {w : World}

theorem isWr_obj {x : Blk} (h : isObj x = true) : isWr x = true := by cases x <;> first | rfl | (cases h; done)
/-- what a row that is still to come is in the world -/
def RO (ρ : Rho) (row : Option (List Value)) (o : Obj) (lim : Nat) : Prop := match row with
  | some row => ∃ row' el, o = .cells ⟨row'⟩ el ∧ VRs ρ row row' ∧ lim = row'.length
  | none => o = .map #[] 0
theorem RO.mono {ρ ρ' : Rho} {row : Option (List Value)} {o : Obj} {lim : Nat} (h : RO ρ row o lim) (L : Le ρ ρ') : RO ρ' row o lim := by
  cases row with
  | none => exact h
  | some row => obtain ⟨row', el, h1, h2, h3⟩ := h; exact ⟨row', el, h1, h2.mono L, h3⟩
-- a row that lies there already
def RowOk (n0 : Nat) (ρ : Rho) (h : H) (w : World) (q : Pend) : Prop :=
  ∃ B o, ρ q.id = some (B, 0) ∧ w.heap[(B : Nat)]? = some o ∧ RO ρ q.row o (ρ.lim B) ∧ n0 ≤ B ∧ ¬ Img ρ h B

theorem Sim.put_cells (s : Sim ng n0 ρ h w) {q : Pend} {B : Nat} {row row' : List Value} {el : TypeId} (hq : ρ q.id = some (B, 0)) (hB : w.heap[(B : Nat)]? = some (.cells ⟨row'⟩ el)) (hqr : q.row = some row) (hv : VRs ρ row row') (hlow : n0 ≤ B)
    (hni : ¬ Img ρ h B) (hlim : ρ.lim B = row'.length) : Sim ng n0 (upd ρ h.next B 0 (ρ.lim B)) (addRow h q) w ∧ Le ρ (upd ρ h.next B 0 (ρ.lim B)) := by
  have hadd : addRow h q = ⟨Nat.succ h.next, h.bl.set q.id (.cells (T.setL row 0 .leaf) h.next), h.mem.set h.next [q.id]⟩ := by unfold addRow; rw [hqr]
  rw [hadd]
  have hnone := s.next_none
  have L := upd_le hnone B 0 (ρ.lim B) (fun i base' hi => rfl)
  have hl : ∀ k, (upd ρ h.next B 0 (ρ.lim B)).lim k = ρ.lim k := by
    intro k
    by_cases e : k = B
    · subst e; exact upd_lim _ _ _ _ _
    · exact upd_lim_ne e
  have hne : ∀ {b x}, h.bl.get b = some x → b ≠ h.next := fun hb => by obtain ⟨p, hp⟩ := s.live hb; exact s.born_ne hnone hp
  have hqn : q.id ≠ h.next := s.born_ne hnone hq
  have hq' : upd ρ h.next B 0 (ρ.lim B) q.id = some (B, 0) := by rw [upd_ne hqn]; exact hq
  have old : ∀ {b x B' base'}, h.bl.get b = some x → upd ρ h.next B 0 (ρ.lim B) b = some (B', base') → ρ b = some (B', base') := fun hb hu => by rwa [upd_ne (hne hb)] at hu
  have notB : ∀ {b x base'}, h.bl.get b = some x → isWr x = true → ρ b = some (B, base') → False := fun hb hx hr => hni ⟨_, _, _, hb, hx, hr⟩
  refine ⟨⟨?_, ?_, ?_, fun g hg => L.get _ _ (s.glob g hg), s.lowOk, ?_, ?_, ?_, ?_, ?_, ?_, ?_, ?_, ?_⟩, L⟩
  · intro i p hi
    show i < Nat.succ h.next
    by_cases e : i = h.next
    · omega
    · rw [upd_ne e] at hi; have := s.born i p hi; omega
  · intro i B' base' hi
    by_cases e : i = h.next
    · rw [e, upd_same] at hi; injection hi with hi; injection hi with e1 e2; subst e1; exact lt_of_some hB
    · rw [upd_ne e] at hi; exact s.inh i B' base' hi
  · intro b t c B' base' hb hr k hk
    rw [hl] at hk
    rcases T.get_set hb with ⟨e, hx⟩ | ⟨hb1, hb⟩
    · rw [e, hq'] at hr; injection hr with hr; injection hr with e1 e2; subst e1
      rw [hlim] at hk
      exact ⟨row'[k], by simp [World.cell?, hB, hk], by simp [World.frozen?, hB]⟩
    · exact s.rows b t c B' base' hb (old hb hr) k hk
  · intro b t c hb
    rcases T.get_set hb with ⟨e, hx⟩ | ⟨hb1, hb⟩
    · injection hx with hx1 hx2; subst hx1; subst hx2; subst e
      refine ⟨B, 0, hq', hlow, lt_of_some hB, fun o v hv' => ?_⟩
      rcases T.get_setL _ _ _ _ _ hv' with ⟨_, h1⟩ | ⟨_, h1⟩
      · simp only [Nat.sub_zero] at h1
        obtain ⟨v', h2, h3⟩ := hv.get h1
        refine ⟨v', ?_, ?_, h3.mono L⟩
        · simp [World.cell?, hB, h2]
        · simp [World.frozen?, hB]
      · cases h1
    · obtain ⟨B', base', h1, h2, h3, h4⟩ := s.cells b t c hb
      exact ⟨B', base', L.get _ _ h1, h2, h3, fun o v hv' => let ⟨v', h5, h6, h7⟩ := h4 o v hv'; ⟨v', h5, h6, h7.mono L⟩⟩
  · intro b t hb
    rcases T.get_set hb with ⟨_, hx⟩ | ⟨hb1, hb⟩
    · cases hx
    · obtain ⟨B', h1, h2, h4⟩ := s.ro b t hb
      exact ⟨B', L.get _ _ h1, h2, fun o v hv' => let ⟨v', h5, h7⟩ := h4 o v hv'; ⟨v', h5, h7.mono L⟩⟩
  · intro b es k hb
    rcases T.get_set hb with ⟨_, hx⟩ | ⟨hb1, hb⟩
    · cases hx
    · obtain ⟨B', es', h1, h2, h3, h4⟩ := s.maps b es k hb
      exact ⟨B', es', L.get _ _ h1, h2, h3, h4.mono L⟩
  · intro b m sn seen st hb
    rcases T.get_set hb with ⟨_, hx⟩ | ⟨hb1, hb⟩
    · cases hx
    · obtain ⟨B', h1, h2, h3⟩ := s.iters b m sn seen st hb
      refine ⟨B', L.get _ _ h1, h2, ?_⟩
      rcases h3 with h3 | ⟨k, M, h3, h4, h5⟩
      · exact Or.inl h3
      · exact Or.inr ⟨k, M, h3, L.get _ _ h4, h5⟩
  · intro b x hb hx
    rcases T.get_set hb with ⟨_, hy⟩ | ⟨hb1, hb⟩
    · subst hy; cases hx
    · obtain ⟨B', o, h1, h2, h3, h4⟩ := s.objs b x hb hx
      exact ⟨B', o, L.get _ _ h1, h2, h3, h4.mono L⟩
  · intro b t c b' t' c' B' base base' hb0 hb0' hr hr'
    rcases T.get_set hb0 with ⟨e1, hx⟩ | ⟨hb1, hb⟩
    · rcases T.get_set hb0' with ⟨e2, hx'⟩ | ⟨hb1', hb'⟩
      · injection hx with hx1 hx2; injection hx' with hx1' hx2'
        rw [e1] at hr; rw [e2] at hr'
        rw [hr] at hr'; injection hr' with hr'; injection hr' with e1 e2
        exact ⟨e2, by rw [← hx2, ← hx2']⟩
      · rw [e1, hq'] at hr; injection hr with hr; injection hr with e1 e2; subst e1
        exact (notB hb' rfl (old hb' hr')).elim
    · rcases T.get_set hb0' with ⟨e2, hx'⟩ | ⟨hb1', hb'⟩
      · rw [e2, hq'] at hr'; injection hr' with hr'; injection hr' with e1 e2; subst e1
        exact (notB hb rfl (old hb hr)).elim
      · exact s.cls b t c b' t' c' B' base base' hb hb' (old hb hr) (old hb' hr')
  · intro b t c l hb hl
    rcases T.get_set hb with ⟨rfl, hx⟩ | ⟨hb1, hb⟩
    · injection hx with hx1 hx2; subst hx2
      rcases T.get_set hl with ⟨_, hl⟩ | ⟨hne', _⟩
      · subst hl; simp
      · exact absurd rfl hne'
    · obtain ⟨p, hp⟩ := s.clsb b t c hb
      rcases T.get_set hl with ⟨e, _⟩ | ⟨_, hl⟩
      · exact absurd e (s.born_ne hnone hp)
      · exact s.mem b t c l hb hl
  · intro b t c hb
    rcases T.get_set hb with ⟨rfl, hx⟩ | ⟨hb1, hb⟩
    · injection hx with hx1 hx2; subst hx2; exact ⟨_, upd_same _ _ _ _ _⟩
    · obtain ⟨p, hp⟩ := s.clsb b t c hb
      exact ⟨p, L.get _ _ hp⟩
  · intro b x b' x' B' base base' hb0 hb0' ho ho' hr hr'
    rcases T.get_set hb0 with ⟨e1, hx⟩ | ⟨hb1, hb⟩
    · subst hx; cases ho
    · rcases T.get_set hb0' with ⟨e2, hx'⟩ | ⟨hb1', hb'⟩
      · subst hx'; cases ho'
      · exact s.inj b x b' x' B' base base' hb hb' ho ho' (old hb hr) (old hb' hr')

theorem Sim.put_map (s : Sim ng n0 ρ h w) {q : Pend} {B : Nat} (hq : ρ q.id = some (B, 0)) (hB : w.heap[(B : Nat)]? = some (.map #[] 0)) (hqr : q.row = none) (hlow : n0 ≤ B)
    (hni : ¬ Img ρ h B) : Sim ng n0 (upd ρ h.next B 0 (ρ.lim B)) (addRow h q) w ∧ Le ρ (upd ρ h.next B 0 (ρ.lim B)) := by
  have hadd : addRow h q = ⟨Nat.succ h.next, h.bl.set q.id (.mp [] 0), h.mem⟩ := by unfold addRow; rw [hqr]
  rw [hadd]
  have hnone := s.next_none
  have L := upd_le hnone B 0 (ρ.lim B) (fun i base' hi => rfl)
  have hl : ∀ k, (upd ρ h.next B 0 (ρ.lim B)).lim k = ρ.lim k := by
    intro k
    by_cases e : k = B
    · subst e; exact upd_lim _ _ _ _ _
    · exact upd_lim_ne e
  have hne : ∀ {b x}, h.bl.get b = some x → b ≠ h.next := fun hb => by obtain ⟨p, hp⟩ := s.live hb; exact s.born_ne hnone hp
  have hqn : q.id ≠ h.next := s.born_ne hnone hq
  have hq' : upd ρ h.next B 0 (ρ.lim B) q.id = some (B, 0) := by rw [upd_ne hqn]; exact hq
  have old : ∀ {b x B' base'}, h.bl.get b = some x → upd ρ h.next B 0 (ρ.lim B) b = some (B', base') → ρ b = some (B', base') := fun hb hu => by rwa [upd_ne (hne hb)] at hu
  have notB : ∀ {b x base'}, h.bl.get b = some x → isWr x = true → ρ b = some (B, base') → False := fun hb hx hr => hni ⟨_, _, _, hb, hx, hr⟩
  refine ⟨⟨?_, ?_, ?_, fun g hg => L.get _ _ (s.glob g hg), s.lowOk, ?_, ?_, ?_, ?_, ?_, ?_, ?_, ?_, ?_⟩, L⟩
  · intro i p hi
    show i < Nat.succ h.next
    by_cases e : i = h.next
    · omega
    · rw [upd_ne e] at hi; have := s.born i p hi; omega
  · intro i B' base' hi
    by_cases e : i = h.next
    · rw [e, upd_same] at hi; injection hi with hi; injection hi with e1 e2; subst e1; exact lt_of_some hB
    · rw [upd_ne e] at hi; exact s.inh i B' base' hi
  · intro b t c B' base' hb hr k hk
    rw [hl] at hk
    rcases T.get_set hb with ⟨e, hx⟩ | ⟨hb1, hb⟩
    · cases hx
    · exact s.rows b t c B' base' hb (old hb hr) k hk
  · intro b t c hb
    rcases T.get_set hb with ⟨e, hx⟩ | ⟨hb1, hb⟩
    · cases hx
    · obtain ⟨B', base', h1, h2, h3, h4⟩ := s.cells b t c hb
      exact ⟨B', base', L.get _ _ h1, h2, h3, fun o v hv' => let ⟨v', h5, h6, h7⟩ := h4 o v hv'; ⟨v', h5, h6, h7.mono L⟩⟩
  · intro b t hb
    rcases T.get_set hb with ⟨_, hx⟩ | ⟨hb1, hb⟩
    · cases hx
    · obtain ⟨B', h1, h2, h4⟩ := s.ro b t hb
      exact ⟨B', L.get _ _ h1, h2, fun o v hv' => let ⟨v', h5, h7⟩ := h4 o v hv'; ⟨v', h5, h7.mono L⟩⟩
  · intro b es k hb
    rcases T.get_set hb with ⟨e, hx⟩ | ⟨hb1, hb⟩
    · injection hx with hx1 hx2; subst hx1; subst hx2; subst e
      exact ⟨B, [], hq', hlow, hB, .nil⟩
    · obtain ⟨B', es', h1, h2, h3, h4⟩ := s.maps b es k hb
      exact ⟨B', es', L.get _ _ h1, h2, h3, h4.mono L⟩
  · intro b m sn seen st hb
    rcases T.get_set hb with ⟨_, hx⟩ | ⟨hb1, hb⟩
    · cases hx
    · obtain ⟨B', h1, h2, h3⟩ := s.iters b m sn seen st hb
      refine ⟨B', L.get _ _ h1, h2, ?_⟩
      rcases h3 with h3 | ⟨k, M, h3, h4, h5⟩
      · exact Or.inl h3
      · exact Or.inr ⟨k, M, h3, L.get _ _ h4, h5⟩
  · intro b x hb hx
    rcases T.get_set hb with ⟨_, hy⟩ | ⟨hb1, hb⟩
    · subst hy; cases hx
    · obtain ⟨B', o, h1, h2, h3, h4⟩ := s.objs b x hb hx
      exact ⟨B', o, L.get _ _ h1, h2, h3, h4.mono L⟩
  · intro b t c b' t' c' B' base base' hb0 hb0' hr hr'
    rcases T.get_set hb0 with ⟨e1, hx⟩ | ⟨hb1, hb⟩
    · cases hx
    · rcases T.get_set hb0' with ⟨e2, hx'⟩ | ⟨hb1', hb'⟩
      · cases hx'
      · exact s.cls b t c b' t' c' B' base base' hb hb' (old hb hr) (old hb' hr')
  · intro b t c l hb hl
    rcases T.get_set hb with ⟨_, hx⟩ | ⟨hb1, hb⟩
    · cases hx
    · exact s.mem b t c l hb hl
  · intro b t c hb
    rcases T.get_set hb with ⟨_, hx⟩ | ⟨hb1, hb⟩
    · cases hx
    · obtain ⟨p, hp⟩ := s.clsb b t c hb
      exact ⟨p, L.get _ _ hp⟩
  · intro b x b' x' B' base base' hb0 hb0' ho ho' hr hr'
    rcases T.get_set hb0 with ⟨e1, hx⟩ | ⟨hb1, hb⟩
    · rcases T.get_set hb0' with ⟨e2, hx'⟩ | ⟨hb1', hb'⟩
      · rw [e1, e2]
      · rw [e1, hq'] at hr; injection hr with hr; injection hr with e1 e2; subst e1
        exact (notB hb' (isWr_obj ho') (old hb' hr')).elim
    · rcases T.get_set hb0' with ⟨e2, hx'⟩ | ⟨hb1', hb'⟩
      · rw [e2, hq'] at hr'; injection hr' with hr'; injection hr' with e1 e2; subst e1
        exact (notB hb (isWr_obj ho) (old hb hr)).elim
      · exact s.inj b x b' x' B' base base' hb hb' ho ho' (old hb hr) (old hb' hr')

theorem Sim.put_row (s : Sim ng n0 ρ h w) {q : Pend} {B : Nat} {o : Obj} (hq : ρ q.id = some (B, 0)) (hB : w.heap[(B : Nat)]? = some o) (ho : RO ρ q.row o (ρ.lim B)) (hlow : n0 ≤ B)
    (hni : ¬ Img ρ h B) : Sim ng n0 (upd ρ h.next B 0 (ρ.lim B)) (addRow h q) w ∧ Le ρ (upd ρ h.next B 0 (ρ.lim B)) := by
  cases hqr : q.row with
  | none =>
    rw [hqr] at ho
    have ho : o = .map #[] 0 := ho
    subst ho
    exact s.put_map hq hB hqr hlow hni
  | some row =>
    rw [hqr] at ho
    obtain ⟨row', el, h1, h2, h3⟩ := ho
    subst h1
    exact s.put_cells hq hB hqr h2 hlow hni h3
theorem addRow_next (h : H) (q : Pend) : (addRow h q).next = h.next + 1 := by
  unfold addRow
  cases q.row <;> rfl
theorem addRow_get {h : H} {q : Pend} {b : Nat} {x : Blk} (hb : (addRow h q).bl.get b = some x) : b = q.id ∨ h.bl.get b = some x := by
  unfold addRow at hb
  cases hr : q.row <;> rw [hr] at hb <;> rcases T.get_set hb with ⟨e, _⟩ | ⟨_, hb⟩ <;> first | exact Or.inl e | exact Or.inr hb

noncomputable def addAll : List Pend → H → H
  | [], h => h
  | q :: l, h => addAll l (addRow h q)
theorem absorbAll_eq : ∀ (l : List Pend) (h : H), absorbAll l h = addAll l h := by
  intro l
  induction l with
  | nil => intro h; rfl
  | cons q l ih => intro h; exact ih _
theorem absorb_cons (mask : Nat) (q : Pend) (l : List Pend) (h : H) : absorb mask (q :: l) h = bi (Nat.testBit mask q.i) (absorb mask l (addRow h q)) ((absorb mask l h).1, q :: (absorb mask l h).2) := rfl
theorem absorb_eq (mask : Nat) : ∀ (l : List Pend) (h : H), absorb mask l h = (addAll (l.filter fun q => Nat.testBit mask q.i) h, l.filter fun q => !Nat.testBit mask q.i) := by
  intro l
  induction l with
  | nil => intro h; rfl
  | cons q l ih =>
    intro h
    rw [absorb_cons]
    cases hb : Nat.testBit mask q.i
    · rw [bi_false, ih]; simp [hb]
    · rw [bi_true, ih]; simp [hb, addAll]

theorem img_addRow (s : Sim ng n0 ρ h w) {q : Pend} {B B' : Nat} (hq : ρ q.id = some (B, 0)) (hi : Img (upd ρ h.next B 0 (ρ.lim B)) (addRow h q) B') : Img ρ h B' ∨ B' = B := by
  obtain ⟨b, base, x, hb, hx, hr⟩ := hi
  have hnone := s.next_none
  rcases addRow_get hb with e | hb
  · rw [e, upd_ne (s.born_ne hnone hq), hq] at hr; injection hr with hr; injection hr with e1 _; exact Or.inr e1.symm
  · obtain ⟨p, hp⟩ := s.live hb
    rw [upd_ne (s.born_ne hnone hp)] at hr
    exact Or.inl ⟨b, base, x, hb, hx, hr⟩

theorem addAll_sound : ∀ (l : List Pend) (ρ : Rho) (h : H), Sim ng n0 ρ h w → (∀ q ∈ l, RowOk n0 ρ h w q) → l.Pairwise (fun q q' => ∀ B, ρ q.id = some (B, 0) → ρ q'.id ≠ some (B, 0)) →
    ∃ ρ', Sim ng n0 ρ' (addAll l h) w ∧ Le ρ ρ' ∧ (∀ i p, ρ' i = some p → ρ i = some p ∨ h.next ≤ i) ∧ h.next ≤ (addAll l h).next ∧ (∀ B, Img ρ' (addAll l h) B → Img ρ h B ∨ ∃ q ∈ l, ρ q.id = some (B, 0)) := by
  intro l
  induction l with
  | nil => intro ρ h s _ _; exact ⟨ρ, s, Le.refl _, fun i p h => Or.inl h, Nat.le_refl _, fun B h => Or.inl h⟩
  | cons q l ih =>
    intro ρ h s hr hp
    obtain ⟨B, o, h1, h2, h3, h4, h5⟩ := hr q (by simp)
    obtain ⟨s1, L1⟩ := s.put_row h1 h2 h3 h4 h5
    rw [List.pairwise_cons] at hp
    obtain ⟨hp1, hp2⟩ := hp
    have back : ∀ q' ∈ l, ∀ B', upd ρ h.next B 0 (ρ.lim B) q'.id = some (B', 0) → ρ q'.id = some (B', 0) := by
      intro q' hq' B' hB'
      obtain ⟨B2, _, k1, _⟩ := hr q' (by simp [hq'])
      rwa [upd_ne (s.born_ne s.next_none k1)] at hB'
    have hin := hr
    obtain ⟨ρ', k1, k2, k3, k4, k5⟩ := ih (upd ρ h.next B 0 (ρ.lim B)) (addRow h q) s1 (fun q' hq' => by
      obtain ⟨B2, o2, g1, g2, g3, g4, g5⟩ := hr q' (by simp [hq'])
      refine ⟨B2, o2, L1.get _ _ g1, g2, ?_, g4, fun hi => ?_⟩
      · rw [L1.lim _ _ _ g1]; exact g3.mono L1
      · rcases img_addRow s h1 hi with hi | hi
        · exact g5 hi
        · subst hi; exact hp1 q' hq' _ h1 g1) (by
      refine List.Pairwise.imp_of_mem ?_ hp2
      intro a b ha hb hab B' hB' hB''
      exact hab B' (back a ha B' hB') (back b hb B' hB''))
    refine ⟨ρ', k1, L1.trans k2, fun i p hi => ?_, (by have := addRow_next h q; have k4 : (addRow h q).next ≤ (addAll l (addRow h q)).next := k4; show h.next ≤ (addAll l (addRow h q)).next; omega), fun B' hi => ?_⟩
    · rcases k3 i p hi with hi | hi
      · by_cases e : i = h.next
        · exact Or.inr (by omega)
        · rw [upd_ne e] at hi; exact Or.inl hi
      · exact Or.inr (by have := addRow_next h q; omega)
    · rcases k5 B' hi with hi | ⟨q', hq', hi⟩
      · rcases img_addRow s h1 hi with hi | hi
        · exact Or.inl hi
        · subst hi; exact Or.inr ⟨q, by simp, h1⟩
      · exact Or.inr ⟨q', by simp [hq'], back q' hq' _ hi⟩

-- masks
theorem bitOr_bit {a b k : Nat} (h : Nat.testBit (bitOr a b) k = true) : Nat.testBit a k = true ∨ Nat.testBit b k = true := by
  have h : Nat.testBit (a ||| b) k = true := h
  rw [Nat.testBit_or] at h
  simpa using h
theorem shl1_bit {a k : Nat} (h : Nat.testBit (shl1 a) k = true) : k = a := by
  have h : Nat.testBit (1 <<< a) k = true := h
  rw [Nat.one_shiftLeft, Nat.testBit_two_pow] at h
  simpa using Eq.symm (by simpa using h)
theorem direct_bit {l : List Edge} {k : Nat} (h : Nat.testBit (directOf l) k = true) : ∃ e ∈ l, binding e = true ∧ e.on = k := by
  induction l with
  | nil => simp [directOf] at h
  | cons e l ih =>
    unfold directOf at h
    cases hb : binding e
    · rw [hb, bi_false] at h; obtain ⟨e', h1, h2⟩ := ih h; exact ⟨e', by simp [h1], h2⟩
    · rw [hb, bi_true] at h
      rcases bitOr_bit h with h | h
      · exact ⟨e, by simp, hb, (shl1_bit h).symm⟩
      · obtain ⟨e', h1, h2⟩ := ih h; exact ⟨e', by simp [h1], h2⟩
theorem closeOf_bit {done : List Nat} {k : Nat} : ∀ {l : List Edge} {acc : Nat}, Nat.testBit (closeOf done acc l) k = true → Nat.testBit acc k = true ∨ ∃ e ∈ l, binding e = true ∧ (e.on = k ∨ Nat.testBit (done.getD e.on 0) k = true) := by
  intro l
  induction l with
  | nil => intro acc h; exact Or.inl h
  | cons e l ih =>
    intro acc h
    unfold closeOf at h
    rcases ih h with h | ⟨e', h1, h2⟩
    · cases hb : binding e
      · rw [hb, bi_false] at h; exact Or.inl h
      · rw [hb, bi_true] at h
        rcases bitOr_bit h with h | h
        · rcases bitOr_bit h with h | h
          · exact Or.inl h
          · exact Or.inr ⟨e, by simp, hb, Or.inl (shl1_bit h).symm⟩
        · exact Or.inr ⟨e, by simp, hb, Or.inr h⟩
    · exact Or.inr ⟨e', by simp [h1], h2⟩
theorem closures_pre : ∀ (l : List Oper) (done : List Nat), ∃ r, closures l done = done ++ r ∧ r.length = l.length := by
  intro l
  induction l with
  | nil => intro done; exact ⟨[], by simp [closures], rfl⟩
  | cons o l ih =>
    intro done
    obtain ⟨r, h1, h2⟩ := ih (done ++ [closeOf done 0 o.after.toList])
    exact ⟨closeOf done 0 o.after.toList :: r, by rw [closures, h1]; simp, by simp [h2]⟩
theorem closures_at : ∀ (l : List Oper) (done : List Nat) (i : Nat) (o : Oper), l[i]? = some o →
    (closures l done)[done.length + i]? = some (closeOf ((closures l done).take (done.length + i)) 0 o.after.toList) := by
  intro l
  induction l with
  | nil => intro done i o h; simp at h
  | cons o' l ih =>
    intro done i o h
    cases i with
    | zero =>
      simp at h; subst h
      obtain ⟨r, h1, h2⟩ := closures_pre l (done ++ [closeOf done 0 o'.after.toList])
      rw [closures, h1]
      simp
    | succ i =>
      simp at h
      have := ih (done ++ [closeOf done 0 o'.after.toList]) i o h
      rw [closures]
      rw [show done.length + (i + 1) = (done ++ [closeOf done 0 o'.after.toList]).length + i by simp; omega]
      exact this
/-- all that a mask names is behind -/
theorem mask_in {ops : List Oper} {D : Nat → Prop} (down : ∀ k o, D k → ops[k]? = some o → ∀ e ∈ o.after.toList, binding e = true → D e.on) :
    ∀ (i : Nat) (o : Oper), ops[i]? = some o → (∀ e ∈ o.after.toList, binding e = true → D e.on) → ∀ m k, (closures ops [])[i]? = some m → Nat.testBit m k = true → D k := by
  intro i
  induction i using Nat.strongRecOn with
  | _ i ih =>
    intro o ho he m k hm hk
    have h1 := closures_at ops [] i o ho
    simp only [List.length_nil, Nat.zero_add] at h1
    rw [h1] at hm; injection hm with hm; subst hm
    rcases closeOf_bit hk with h2 | ⟨e, h2, h3, h4⟩
    · simp at h2
    · have hD := he e h2 h3
      rcases h4 with h4 | h4
      · rw [← h4]; exact hD
      · cases hg : ((closures ops []).take i)[e.on]? with
        | none => simp [List.getD_eq_getElem?_getD, hg] at h4
        | some m' =>
          simp only [List.getD_eq_getElem?_getD, hg, Option.getD_some] at h4
          have hlt : e.on < i := by
            have := (List.getElem?_eq_some_iff.1 hg).1
            simp at this; omega
          have hm' : (closures ops [])[e.on]? = some m' := by rwa [List.getElem?_take_of_lt hlt] at hg
          have hlt2 : e.on < ops.length := by have := (List.getElem?_eq_some_iff.1 ho).1; omega
          have ho' : ops[e.on]? = some ops[e.on] := List.getElem?_eq_getElem hlt2
          exact ih e.on hlt _ ho' (fun e' h5 h6 => down _ _ hD ho' e' h5 h6) m' k hm' h4

theorem edges_lt {i : Nat} : ∀ {l : List Edge}, edgesOk i l = true → ∀ e ∈ l, binding e = true → e.on < i := by
  intro l
  induction l with
  | nil => intro _ e he; simp at he
  | cons e' l ih =>
    intro h e he hb
    unfold edgesOk at h
    simp at he
    cases hb' : binding e'
    · rw [hb', bi_false] at h
      rcases he with rfl | he
      · rw [hb] at hb'; cases hb'
      · exact ih h e he hb
    · rw [hb', bi_true, bi_tf] at h
      rcases he with rfl | he
      · exact (Nat.ble_eq.mp h.1 : _)
      · exact ih h.2 e he hb
theorem clear_spec {t : Tmp} {i mask : Nat} : ∀ {l : List Oper} {k : Nat}, clear t i mask k l = true → ∀ (j : Nat) (o : Oper), l[j]? = some o → o.dst = some t → Nat.testBit mask (k + j) = true ∨ Nat.testBit (directOf o.after.toList) i = true := by
  intro l
  induction l with
  | nil => intro k _ j o h; simp at h
  | cons o' l ih =>
    intro k h j o hj hd
    unfold clear at h
    rw [bi_tf] at h
    cases j with
    | zero =>
      simp at hj; subst hj
      have h := h.1
      rw [hd] at h
      simp only [Nat.beq_refl, bi_true] at h
      cases hc : Nat.testBit mask k
      · rw [hc, bi_false] at h; exact Or.inr h
      · exact Or.inl rfl
    | succ j =>
      simp at hj
      have := ih h.2 j o hj hd
      rwa [show k + 1 + j = k + (j + 1) by omega] at this
theorem clearAll_spec {ops : List Oper} {i mask : Nat} : ∀ {l : List Operand}, clearAll ops i mask l = true → ∀ t, Operand.tmp t ∈ l → clear t i mask 0 ops = true := by
  intro l
  induction l with
  | nil => intro _ t ht; simp at ht
  | cons x l ih =>
    intro h t ht
    unfold clearAll at h
    rw [bi_tf] at h
    simp at ht
    rcases ht with rfl | ht
    · exact h.1
    · exact ih h.2 t ht
theorem alone_spec {i : Nat} {d : Tmp} : ∀ {l : List Oper} {k : Nat}, alone i d k l = true → ∀ (j : Nat) (o : Oper), l[j]? = some o → o.dst = some d → k + j = i := by
  intro l
  induction l with
  | nil => intro k _ j o h; simp at h
  | cons o' l ih =>
    intro k h j o hj hd
    unfold alone at h
    have tail : alone i d (k + 1) l = true ∧ (k = i ∨ o'.dst ≠ some d) := by
      rw [bi_eq] at h
      split at h
      · rename_i e; exact ⟨h, Or.inl (Nat.eq_of_beq_eq_true e)⟩
      · split at h
        · rename_i e he
          rw [bi_eq] at h
          split at h
          · cases h
          · rename_i hne
            refine ⟨h, Or.inr fun hh => hne ?_⟩
            rw [he] at hh; injection hh with hh; subst hh; exact Nat.beq_refl _
        · rename_i he
          exact ⟨h, Or.inr (by rw [he]; simp)⟩
    cases j with
    | zero =>
      simp at hj; subst hj
      rcases tail.2 with h | h
      · simpa using h
      · exact absurd hd h
    | succ j =>
      simp at hj
      have := ih tail.1 j o hj hd
      omega
theorem opsOk_at : ∀ {ops l : List Oper} {k : Nat}, opsOk ops k l = true → ∀ (j : Nat) (o : Oper), l[j]? = some o → opOk ops (k + j) o = true := by
  intro ops l
  induction l with
  | nil => intro k _ j o h; simp at h
  | cons o' l ih =>
    intro k h j o hj
    unfold opsOk at h
    rw [bi_tf] at h
    cases j with
    | zero => simp at hj; subst hj; exact h.1
    | succ j => simp at hj; have := ih h.2 j o hj; rwa [show k + 1 + j = k + (j + 1) by omega] at this
structure OpOk (ops : List Oper) (i : Nat) (o : Oper) : Prop where
  edges : ∀ e ∈ o.after.toList, binding e = true → e.on < i
  clr : ∀ t, Operand.tmp t ∈ o.op.operands.toList → ∀ (j : Nat) (p : Oper), ops[j]? = some p → p.dst = some t → (∃ e ∈ o.after.toList, binding e = true ∧ e.on = j) ∨ (∃ e ∈ p.after.toList, binding e = true ∧ e.on = i)
  grd : ∀ g, o.guard = some g → ∃ p t, ops[g.1]? = some p ∧ p.dst = some t ∧ ∃ e ∈ o.after.toList, binding e = true ∧ e.on = g.1
  one : ∀ d, o.dst = some d → ∀ (j : Nat) (p : Oper), ops[j]? = some p → p.dst = some d → j = i
theorem opOk_spec {ops : List Oper} {i : Nat} {o : Oper} (h : opOk ops i o = true) : OpOk ops i o := by
  unfold opOk at h
  rw [bi_tf, bi_tf, bi_tf] at h
  obtain ⟨h1, h2, h3, h4⟩ := h
  refine ⟨edges_lt h1, ?_, ?_, ?_⟩
  · intro t ht j p hj hd
    rcases clear_spec (clearAll_spec h2 t ht) j p hj hd with h | h
    · rw [Nat.zero_add] at h; exact Or.inl (direct_bit h)
    · exact Or.inr (direct_bit h)
  · intro g hg
    rw [hg] at h3
    unfold guardOk at h3
    simp only at h3
    split at h3
    · rename_i p hp
      split at h3
      · rename_i t ht
        exact ⟨p, t, hp, ht, direct_bit h3⟩
      · cases h3
    · cases h3
  · intro d hd j p hj hp
    rw [hd] at h4
    have := alone_spec h4 j p hj hp
    omega
theorem regionOk_spec {ops : List Oper} (h : regionOk ops = true) (i : Nat) (o : Oper) (ho : ops[i]? = some o) : OpOk ops i o := by
  have h := opsOk_at h i o ho
  rw [Nat.zero_add] at h
  exact opOk_spec h
end
end Go.Ev
end
