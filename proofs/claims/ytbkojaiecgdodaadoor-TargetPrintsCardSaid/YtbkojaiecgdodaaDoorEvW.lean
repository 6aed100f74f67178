/- A part of an evaluator of runs, and that it is right. -/
import Derived.Test.YtbkojaiecgdodaaDoorEvM
import Derived.Below
set_option linter.unusedVariables false
set_option linter.unusedSimpArgs false
set_option linter.unusedSectionVars false
namespace Go.Ev
variable [Den]
section
variable {P : Program} {eqs : List Nat} {clone : Sp} {n0 ng : Nat} {ρ : Rho} {h : H} {α : A} {a : Act} {w w' : World}

theorem cell_of {B : Nat} (hB : w'.heap[(B : Nat)]? = w.heap[B]?) (o : Nat) : w'.cell? ⟨B, o, none⟩ = w.cell? ⟨B, o, none⟩ := World.cell?_of_block (w := w) hB
theorem frozen_of {B : Nat} (hB : w'.heap[(B : Nat)]? = w.heap[B]?) (o : Nat) : w'.frozen? ⟨B, o, none⟩ = w.frozen? ⟨B, o, none⟩ := World.frozen?_of_block (w := w) hB

theorem lt_of_some {x : Obj} {B : Nat} (hB : w.heap[B]? = some x) : B < w.heap.size := (Array.getElem?_eq_some_iff.1 hB).1

/-- what is tracked is left as it is -/
theorem Sim.same (s : Sim ng n0 ρ h w) (hs : w.heap.size ≤ w'.heap.size) (hk : ∀ B, B < w.heap.size → (B < n0 ∨ Img ρ h B) → w'.heap[B]? = w.heap[B]?) : Sim ng n0 ρ h w' := by
  refine ⟨s.born, fun i B base hi => Nat.lt_of_lt_of_le (s.inh i B base hi) hs, ?_, s.glob, s.lowOk.step hs (fun k hk' => hk k (Nat.lt_of_lt_of_le hk' s.low) (Or.inl hk')), ?_, ?_, ?_, ?_, ?_, s.cls, s.mem, s.clsb, s.inj⟩
  · intro b t c B base hb hr k hlt
    obtain ⟨v, h1, h2⟩ := s.rows b t c B base hb hr k hlt
    have e := hk B (s.inh _ _ _ hr) (Or.inr ⟨b, base, _, hb, rfl, hr⟩)
    exact ⟨v, by rw [cell_of e]; exact h1, by rw [frozen_of e]; exact h2⟩
  · intro b t c hb
    obtain ⟨B, base, h1, h2, h3, h4⟩ := s.cells b t c hb
    have e := hk B h3 (Or.inr ⟨b, base, _, hb, rfl, h1⟩)
    refine ⟨B, base, h1, h2, Nat.lt_of_lt_of_le h3 hs, fun o v hv => ?_⟩
    obtain ⟨v', h5, h6, h7⟩ := h4 o v hv
    exact ⟨v', by rw [cell_of e]; exact h5, by rw [frozen_of e]; exact h6, h7⟩
  · intro b t hb
    obtain ⟨B, h1, h2, h4⟩ := s.ro b t hb
    have e := hk B (Nat.lt_of_lt_of_le h2 s.low) (Or.inl h2)
    refine ⟨B, h1, h2, fun o v hv => ?_⟩
    obtain ⟨v', h5, h7⟩ := h4 o v hv
    exact ⟨v', by rw [cell_of e]; exact h5, h7⟩
  · intro b es k hb
    obtain ⟨B, es', h1, h2, h3, h4⟩ := s.maps b es k hb
    have e := hk B (lt_of_some h3) (Or.inr ⟨b, 0, _, hb, rfl, h1⟩)
    exact ⟨B, es', h1, h2, by rw [e]; exact h3, h4⟩
  · intro b m sn seen st hb
    obtain ⟨B, h1, h2, h3⟩ := s.iters b m sn seen st hb
    have e : w'.heap[B]? = w.heap[B]? := by
      refine hk B ?_ (Or.inr ⟨b, 0, _, hb, rfl, h1⟩)
      rcases h3 with ⟨_, h3⟩ | ⟨_, _, _, _, h3⟩ <;> exact lt_of_some h3
    refine ⟨B, h1, h2, ?_⟩
    rw [e]; exact h3
  · intro b x hb hx
    obtain ⟨B, o, h1, h2, h3, h4⟩ := s.objs b x hb hx
    have e := hk B (lt_of_some h3) (Or.inr ⟨b, 0, _, hb, by cases x <;> first | rfl | (cases hx; done), h1⟩)
    exact ⟨B, o, h1, h2, by rw [e]; exact h3, h4⟩

/-- one more number; of a block that is new, how long its row is -/
def upd (ρ : Rho) (id B base lim : Nat) : Rho := ⟨fun i => if i = id then some (B, base) else ρ i, fun k => if k = B then lim else ρ.lim k, ρ.own⟩
theorem upd_same (ρ : Rho) (id B base lim : Nat) : upd ρ id B base lim id = some (B, base) := if_pos rfl
theorem upd_ne {ρ : Rho} {id B base lim i : Nat} (h : i ≠ id) : upd ρ id B base lim i = ρ i := if_neg h
theorem upd_lim (ρ : Rho) (id B base lim : Nat) : (upd ρ id B base lim).lim B = lim := if_pos rfl
theorem upd_lim_ne {ρ : Rho} {id B base lim k : Nat} (h : k ≠ B) : (upd ρ id B base lim).lim k = ρ.lim k := if_neg h
theorem upd_le {ρ : Rho} {id : Nat} (hid : ρ id = none) (B base lim : Nat) (hl : ∀ i base', ρ i = some (B, base') → lim = ρ.lim B) : Le ρ (upd ρ id B base lim) := by
  refine ⟨fun i p hi => ?_, fun i B' base' hi => ?_, rfl⟩
  · by_cases e : i = id
    · subst e; rw [hid] at hi; cases hi
    · rw [upd_ne e]; exact hi
  · by_cases e : B' = B
    · subst e; rw [upd_lim]; exact hl i base' hi
    · exact upd_lim_ne e

/-- another number for a concrete block, with its number's class: the row of a new block -/
theorem Sim.born_ne (s : Sim ng n0 ρ h w) {id : Nat} (hid : ρ id = none) {i : Nat} {p : Nat × Nat} (hi : ρ i = some p) : i ≠ id := by
  intro e; subst e; rw [hid] at hi; cases hi
theorem Sim.live (s : Sim ng n0 ρ h w) {b : Nat} {x : Blk} (hb : h.bl.get b = some x) : ∃ p, ρ b = some p := by
  cases x with
  | cells t c => obtain ⟨B, base, h1, _⟩ := s.cells _ _ _ hb; exact ⟨_, h1⟩
  | ro t => obtain ⟨B, h1, _⟩ := s.ro _ _ hb; exact ⟨_, h1⟩
  | mp es k => obtain ⟨B, _, h1, _⟩ := s.maps _ _ _ hb; exact ⟨_, h1⟩
  | it m sn seen st => obtain ⟨B, h1, _⟩ := s.iters _ _ _ _ _ hb; exact ⟨_, h1⟩
  | lp x => obtain ⟨B, _, h1, _⟩ := s.objs _ _ hb rfl; exact ⟨_, h1⟩
  | df x => obtain ⟨B, _, h1, _⟩ := s.objs _ _ hb rfl; exact ⟨_, h1⟩

theorem Sim.add_cellsF (s : Sim ng n0 ρ h w) {id B next : Nat} {vs vs' : List Value} {cs : Array Value} {el : TypeId} {fz : Nat × Nat} (hfz : ∀ k, k < cs.size → (decide (fz.1 ≤ k) && decide (k < fz.2)) = false) (hid : ρ id = none) (hn : h.next ≤ next) (hlt : id < next) (hlow : n0 ≤ B)
    (hB : w.heap[B]? = some (.cells cs el fz)) (hcs : ∀ (i : Nat) (v : Value), vs'[i]? = some v → cs[i]? = some v) (hni : ∀ i base, ρ i = some (B, base) → False) (hv : VRs ρ vs vs') :
    Sim ng n0 (upd ρ id B 0 cs.size) ⟨next, h.bl.set id (.cells (T.setL vs 0 .leaf) id), h.mem.set id [id]⟩ w := by
  have L := upd_le hid B 0 cs.size (fun i base' hi => (hni i base' hi).elim)
  have hne : ∀ {b x}, h.bl.get b = some x → b ≠ id := fun hb => by obtain ⟨p, hp⟩ := s.live hb; exact s.born_ne hid hp
  have old : ∀ {b B' base'}, b ≠ id → upd ρ id B 0 cs.size b = some (B', base') → ρ b = some (B', base') := fun hb hu => by rwa [upd_ne hb] at hu
  refine ⟨?_, ?_, ?_, fun g hg => L.get _ _ (s.glob g hg), s.lowOk, ?_, ?_, ?_, ?_, ?_, ?_, ?_, ?_, ?_⟩
  · intro i p hi
    by_cases e : i = id
    · subst e; exact hlt
    · rw [upd_ne e] at hi; exact Nat.lt_of_lt_of_le (s.born i p hi) hn
  · intro i B' base' hi
    by_cases e : i = id
    · rw [e, upd_same] at hi; injection hi with hi; injection hi with e1 e2; subst e1; exact lt_of_some hB
    · exact s.inh i B' base' (old e hi)
  · intro b t c B' base' hb hr k hk
    rcases T.get_set hb with ⟨e, hx⟩ | ⟨hb1, hb⟩
    · rw [e, upd_same] at hr; injection hr with hr; injection hr with e1 e2; subst e1
      rw [upd_lim] at hk
      exact ⟨cs[k], by simp [World.cell?, hB, hk], by simpa [World.frozen?, hB] using hfz k hk⟩
    · have hr2 := old hb1 hr
      have hBne : B' ≠ B := fun e => hni _ _ (e ▸ hr2)
      rw [upd_lim_ne hBne] at hk
      exact s.rows b t c B' base' hb hr2 k hk
  · intro b t c hb
    rcases T.get_set hb with ⟨e, hx⟩ | ⟨hb1, hb⟩
    · injection hx with hx1 hx2; subst hx1; subst hx2; subst e
      refine ⟨B, 0, upd_same _ _ _ _ _, hlow, lt_of_some hB, fun o v hv' => ?_⟩
      rcases T.get_setL _ _ _ _ _ hv' with ⟨_, h1⟩ | ⟨_, h1⟩
      · simp only [Nat.sub_zero] at h1
        obtain ⟨v', h2, h3⟩ := hv.get h1
        refine ⟨v', ?_, ?_, h3.mono L⟩
        · simp [World.cell?, hB, hcs _ _ h2]
        · have hk : o < cs.size := (Array.getElem?_eq_some_iff.1 (hcs _ _ h2)).1
          simpa [World.frozen?, hB] using hfz o hk
      · cases h1
    · obtain ⟨B', base', h1, h2, h3, h4⟩ := s.cells b t c hb
      exact ⟨B', base', L.get _ _ h1, h2, h3, fun o v hv' => let ⟨v', h5, h6, h7⟩ := h4 o v hv'; ⟨v', h5, h6, h7.mono L⟩⟩
  · intro b t hb
    rcases T.get_set hb with ⟨_, hx⟩ | ⟨hb1, hb⟩
    · cases hx
    · obtain ⟨B', h1, h2, h4⟩ := s.ro b t hb
      exact ⟨B', L.get _ _ h1, h2, fun o v hv' => let ⟨v', h5, h7⟩ := h4 o v hv'; ⟨v', h5, h7.mono L⟩⟩
  · intro b es k hb
    rcases T.get_set hb with ⟨_, hx⟩ | ⟨hb1, hb⟩
    · cases hx
    · obtain ⟨B', es', h1, h2, h3, h4⟩ := s.maps b es k hb
      exact ⟨B', es', L.get _ _ h1, h2, h3, h4.mono L⟩
  · intro b m sn seen st hb
    rcases T.get_set hb with ⟨_, hx⟩ | ⟨hb1, hb⟩
    · cases hx
    · obtain ⟨B', h1, h2, h3⟩ := s.iters b m sn seen st hb
      refine ⟨B', L.get _ _ h1, h2, ?_⟩
      rcases h3 with h3 | ⟨k, M, h3, h4, h5⟩
      · exact Or.inl h3
      · exact Or.inr ⟨k, M, h3, L.get _ _ h4, h5⟩
  · intro b x hb hx
    rcases T.get_set hb with ⟨_, hy⟩ | ⟨hb1, hb⟩
    · subst hy; cases hx
    · obtain ⟨B', o, h1, h2, h3, h4⟩ := s.objs b x hb hx
      exact ⟨B', o, L.get _ _ h1, h2, h3, h4.mono L⟩
  · intro b t c b' t' c' B' base base' hb0 hb0' hr hr'
    rcases T.get_set hb0 with ⟨e1, hx⟩ | ⟨hb1, hb⟩
    · rcases T.get_set hb0' with ⟨e2, hx'⟩ | ⟨hb1', hb'⟩
      · injection hx with hx1 hx2; injection hx' with hx1' hx2'
        rw [e1] at hr; rw [e2] at hr'
        rw [hr] at hr'; injection hr' with hr'; injection hr' with e1 e2
        exact ⟨e2, by rw [← hx2, ← hx2']⟩
      · rw [e1, upd_same] at hr; injection hr with hr; injection hr with e1 e2; subst e1
        exact (hni _ _ (old hb1' hr')).elim
    · rcases T.get_set hb0' with ⟨e2, hx'⟩ | ⟨hb1', hb'⟩
      · rw [e2, upd_same] at hr'; injection hr' with hr'; injection hr' with e1 e2; subst e1
        exact (hni _ _ (old hb1 hr)).elim
      · exact s.cls b t c b' t' c' B' base base' hb hb' (old hb1 hr) (old hb1' hr')
  · intro b t c l hb hl
    rcases T.get_set hb with ⟨rfl, hx⟩ | ⟨hb1, hb⟩
    · injection hx with hx1 hx2; subst hx2
      rcases T.get_set hl with ⟨_, hl⟩ | ⟨hne', _⟩
      · subst hl; simp
      · exact absurd rfl hne'
    · obtain ⟨p, hp⟩ := s.clsb b t c hb
      rcases T.get_set hl with ⟨e, _⟩ | ⟨_, hl⟩
      · exact absurd e (s.born_ne hid hp)
      · exact s.mem b t c l hb hl
  · intro b t c hb
    rcases T.get_set hb with ⟨rfl, hx⟩ | ⟨hb1, hb⟩
    · injection hx with hx1 hx2; subst hx2; exact ⟨_, upd_same _ _ _ _ _⟩
    · obtain ⟨p, hp⟩ := s.clsb b t c hb
      exact ⟨p, L.get _ _ hp⟩
  · intro b x b' x' B' base base' hb0 hb0' ho ho' hr hr'
    rcases T.get_set hb0 with ⟨e1, hx⟩ | ⟨hb1, hb⟩
    · subst hx; cases ho
    · rcases T.get_set hb0' with ⟨e2, hx'⟩ | ⟨hb1', hb'⟩
      · subst hx'; cases ho'
      · exact s.inj b x b' x' B' base base' hb hb' ho ho' (old hb1 hr) (old hb1' hr')

theorem Sim.add_cells (s : Sim ng n0 ρ h w) {id B next : Nat} {vs vs' : List Value} {cs : Array Value} {el : TypeId} (hid : ρ id = none) (hn : h.next ≤ next) (hlt : id < next) (hlow : n0 ≤ B)
    (hB : w.heap[B]? = some (.cells cs el)) (hcs : ∀ (i : Nat) (v : Value), vs'[i]? = some v → cs[i]? = some v) (hni : ∀ i base, ρ i = some (B, base) → False) (hv : VRs ρ vs vs') :
    Sim ng n0 (upd ρ id B 0 cs.size) ⟨next, h.bl.set id (.cells (T.setL vs 0 .leaf) id), h.mem.set id [id]⟩ w :=
  s.add_cellsF (fz := (0, 0)) (fun k _ => by simp) hid hn hlt hlow hB hcs hni hv
theorem isObj_wr {x : Blk} (h : isObj x = true) : isWr x = true := by cases x <;> simp_all [isObj, isWr]
theorem img_lt (s : Sim ng n0 ρ h w) {B : Nat} (hi : Img ρ h B) : B < w.heap.size := by
  obtain ⟨b, base, x, hb, hx, hr⟩ := hi
  cases x with
  | cells t c => obtain ⟨B', base', h1, _, h3, _⟩ := s.cells _ _ _ hb; rw [hr] at h1; injection h1 with h1; injection h1 with e1 e2; subst e1; exact h3
  | ro t => cases hx
  | mp es k => obtain ⟨B', _, h1, _, h3, _⟩ := s.maps _ _ _ hb; rw [hr] at h1; injection h1 with h1; injection h1 with e1 e2; subst e1; exact lt_of_some h3
  | it m sn seen st =>
    obtain ⟨B', h1, _, h3⟩ := s.iters _ _ _ _ _ hb; rw [hr] at h1; injection h1 with h1; injection h1 with e1 e2; subst e1
    rcases h3 with ⟨_, h3⟩ | ⟨_, _, _, _, h3⟩ <;> exact lt_of_some h3
  | lp x => obtain ⟨B', _, h1, _, h3, _⟩ := s.objs _ _ hb rfl; rw [hr] at h1; injection h1 with h1; injection h1 with e1 e2; subst e1; exact lt_of_some h3
  | df x => obtain ⟨B', _, h1, _, h3, _⟩ := s.objs _ _ hb rfl; rw [hr] at h1; injection h1 with h1; injection h1 with e1 e2; subst e1; exact lt_of_some h3
theorem img_low (s : Sim ng n0 ρ h w) {B : Nat} (hi : Img ρ h B) : n0 ≤ B := by
  obtain ⟨b, base, x, hb, hx, hr⟩ := hi
  cases x with
  | cells t c => obtain ⟨B', base', h1, h2, h3, _⟩ := s.cells _ _ _ hb; rw [hr] at h1; injection h1 with h1; injection h1 with e1 e2; subst e1; exact h2
  | ro t => cases hx
  | mp es k => obtain ⟨B', _, h1, h2, h3, _⟩ := s.maps _ _ _ hb; rw [hr] at h1; injection h1 with h1; injection h1 with e1 e2; subst e1; exact h2
  | it m sn seen st =>
    obtain ⟨B', h1, h2, h3⟩ := s.iters _ _ _ _ _ hb; rw [hr] at h1; injection h1 with h1; injection h1 with e1 e2; subst e1; exact h2
  | lp x => obtain ⟨B', _, h1, h2, _⟩ := s.objs _ _ hb rfl; rw [hr] at h1; injection h1 with h1; injection h1 with e1 e2; subst e1; exact h2
  | df x => obtain ⟨B', _, h1, h2, _⟩ := s.objs _ _ hb rfl; rw [hr] at h1; injection h1 with h1; injection h1 with e1 e2; subst e1; exact h2

theorem heap_push (w : World) (o : Obj) (B : Nat) (hB : B < w.heap.size) : ({ w with heap := w.heap.push o } : World).heap[B]? = w.heap[B]? := by
  show (w.heap.push o)[B]? = _
  rw [Array.getElem?_push, if_neg (by omega)]
theorem heap_push_new (w : World) (o : Obj) : ({ w with heap := w.heap.push o } : World).heap[w.heap.size]? = some o := by
  show (w.heap.push o)[w.heap.size]? = _
  simp

theorem Sim.next_none (s : Sim ng n0 ρ h w) : ρ h.next = none := by
  cases hp : ρ h.next with
  | none => rfl
  | some p => exact absurd (s.born _ _ hp) (Nat.lt_irrefl _)

theorem Sim.pushed (s : Sim ng n0 ρ h w) (o : Obj) : Sim ng n0 ρ h { w with heap := w.heap.push o } :=
  s.same (by simp) fun B hB _ => heap_push w o B hB

/-- the row of a new block, at once -/
theorem new_cellsF (s : Sim ng n0 ρ h w) {vs vs' : List Value} (hv : VRs ρ vs vs') (cs : Array Value) (hcs : ∀ (i : Nat) (v : Value), vs'[i]? = some v → cs[i]? = some v) (el : TypeId) {fz : Nat × Nat} (hfz : ∀ k, k < cs.size → (decide (fz.1 ≤ k) && decide (k < fz.2)) = false) :
    Sim ng n0 (upd ρ h.next w.heap.size 0 cs.size) (newCells h vs) { w with heap := w.heap.push (.cells cs el fz) } ∧
    Step ρ h w (upd ρ h.next w.heap.size 0 cs.size) (newCells h vs) { w with heap := w.heap.push (.cells cs el fz) } := by
  have hid := s.next_none
  have hni : ∀ i base, ρ i = some (w.heap.size, base) → False := fun i base hi => absurd (s.inh _ _ _ hi) (Nat.lt_irrefl _)
  refine ⟨(s.pushed _).add_cellsF hfz hid (Nat.le_succ _) (Nat.lt_succ_self _) s.low (heap_push_new w _) hcs hni hv, upd_le hid _ _ _ (fun i b hi => (hni i b hi).elim), ?_, Nat.le_succ _, rfl, rfl, rfl, by simp, fun B hB _ => heap_push w _ B hB, ?_⟩
  · intro i p hi
    by_cases e : i = h.next
    · exact Or.inr (by omega)
    · rw [upd_ne e] at hi; exact Or.inl hi
  · rintro B ⟨b, base, x, hb, hx, hr⟩
    rcases T.get_set hb with ⟨e, _⟩ | ⟨hb1, hb⟩
    · rw [e, upd_same] at hr; injection hr with hr; injection hr with e1 e2; exact Or.inl (by omega)
    · rw [upd_ne hb1] at hr; exact Or.inr ⟨b, base, x, hb, hx, hr⟩

theorem new_cells (s : Sim ng n0 ρ h w) {vs vs' : List Value} (hv : VRs ρ vs vs') (cs : Array Value) (hcs : ∀ (i : Nat) (v : Value), vs'[i]? = some v → cs[i]? = some v) (el : TypeId) :
    Sim ng n0 (upd ρ h.next w.heap.size 0 cs.size) (newCells h vs) { w with heap := w.heap.push (.cells cs el) } ∧
    Step ρ h w (upd ρ h.next w.heap.size 0 cs.size) (newCells h vs) { w with heap := w.heap.push (.cells cs el) } :=
  new_cellsF s hv cs hcs el (fz := (0, 0)) (fun k _ => by simp)

/-- an object that is no row -/
theorem Sim.add_obj (s : Sim ng n0 ρ h w) (x : Blk) (o : Obj) (hx : isObj x = true)
    (hm : ∀ es k, x = .mp es k → ∃ es', o = .map ⟨es'⟩ k ∧ ER ρ es es')
    (hi : ∀ m sn seen st, x = .it m sn seen st → (m = none ∧ o = .mapIter none sn ⟨seen⟩ st) ∨ ∃ k M, m = some k ∧ ρ k = some (M, 0) ∧ o = .mapIter (some M) sn ⟨seen⟩ st)
    (ho : isLp x = true → LR ρ x o := by intro h; cases h) :
    Sim ng n0 (upd ρ h.next w.heap.size 0 0) (newBlk h x) { w with heap := w.heap.push o } ∧
    Step ρ h w (upd ρ h.next w.heap.size 0 0) (newBlk h x) { w with heap := w.heap.push o } := by
  have hid := s.next_none
  have L := upd_le hid w.heap.size 0 0 (fun i b hi => absurd (s.inh _ _ _ hi) (Nat.lt_irrefl _))
  have hlt : ∀ B, Img ρ h B → B < w.heap.size := fun B hi => img_lt s hi
  have hlow := s.low
  have s' := s.pushed o
  have hne : ∀ {b y}, h.bl.get b = some y → b ≠ h.next := fun hb => by obtain ⟨p, hp⟩ := s.live hb; exact s.born_ne hid hp
  have old : ∀ {b B' base'}, b ≠ h.next → upd ρ h.next w.heap.size 0 0 b = some (B', base') → ρ b = some (B', base') := fun hb hu => by rwa [upd_ne hb] at hu
  refine ⟨⟨?_, ?_, ?_, fun g hg => L.get _ _ (s.glob g hg), s'.lowOk, ?_, ?_, ?_, ?_, ?_, ?_, ?_, ?_, ?_⟩, L, ?_, Nat.le_succ _, rfl, rfl, rfl, by simp, fun B hB _ => heap_push w _ B hB, ?_⟩
  · intro i p hi
    by_cases e : i = h.next
    · subst e; exact Nat.lt_succ_self _
    · rw [upd_ne e] at hi; exact Nat.lt_succ_of_lt (s.born i p hi)
  · intro i B' base' hi
    by_cases e : i = h.next
    · rw [e, upd_same] at hi; injection hi with hi; injection hi with e1 e2; subst e1; simp
    · exact s'.inh i B' base' (old e hi)
  · intro b t c B' base' hb hr k hk
    rcases T.get_set hb with ⟨e, hy⟩ | ⟨hb1, hb⟩
    · subst hy; cases hx
    · have hr := old hb1 hr
      have := s.inh _ _ _ hr
      rw [upd_lim_ne (by omega)] at hk
      exact s'.rows b t c B' base' hb hr k hk
  · intro b t c hb
    rcases T.get_set hb with ⟨_, hy⟩ | ⟨hb1, hb⟩
    · subst hy; cases hx
    · obtain ⟨B', base', h1, h2, h3, h4⟩ := s'.cells b t c hb
      exact ⟨B', base', L.get _ _ h1, h2, h3, fun o v hv' => let ⟨v', h5, h6, h7⟩ := h4 o v hv'; ⟨v', h5, h6, h7.mono L⟩⟩
  · intro b t hb
    rcases T.get_set hb with ⟨_, hy⟩ | ⟨hb1, hb⟩
    · subst hy; cases hx
    · obtain ⟨B', h1, h2, h4⟩ := s'.ro b t hb
      exact ⟨B', L.get _ _ h1, h2, fun o v hv' => let ⟨v', h5, h7⟩ := h4 o v hv'; ⟨v', h5, h7.mono L⟩⟩
  · intro b es k hb
    rcases T.get_set hb with ⟨e, hy⟩ | ⟨hb1, hb⟩
    · obtain ⟨es', h1, h2⟩ := hm es k hy
      subst e; subst h1
      exact ⟨_, es', upd_same _ _ _ _ _, hlow, heap_push_new w _, h2.mono L⟩
    · obtain ⟨B', es', h1, h2, h3, h4⟩ := s'.maps b es k hb
      exact ⟨B', es', L.get _ _ h1, h2, h3, h4.mono L⟩
  · intro b m sn seen st hb
    rcases T.get_set hb with ⟨e, hy⟩ | ⟨hb1, hb⟩
    · subst e
      refine ⟨_, upd_same _ _ _ _ _, hlow, ?_⟩
      rcases hi m sn seen st hy with ⟨h1, h2⟩ | ⟨k, M, h1, h2, h3⟩
      · subst h2; exact Or.inl ⟨h1, heap_push_new w _⟩
      · subst h3; exact Or.inr ⟨k, M, h1, L.get _ _ h2, heap_push_new w _⟩
    · obtain ⟨B', h1, h2, h3⟩ := s'.iters b m sn seen st hb
      refine ⟨B', L.get _ _ h1, h2, ?_⟩
      rcases h3 with h3 | ⟨k, M, h3, h4, h5⟩
      · exact Or.inl h3
      · exact Or.inr ⟨k, M, h3, L.get _ _ h4, h5⟩
  · intro b y hb hy
    rcases T.get_set hb with ⟨e, he⟩ | ⟨hb1, hb⟩
    · subst e; subst he
      exact ⟨_, o, upd_same _ _ _ _ _, hlow, heap_push_new w _, (ho hy).mono L⟩
    · obtain ⟨B', o', h1, h2, h3, h4⟩ := s'.objs b y hb hy
      exact ⟨B', o', L.get _ _ h1, h2, h3, h4.mono L⟩
  · intro b t c b' t' c' B' base base' hb hb' hr hr'
    rcases T.get_set hb with ⟨_, hy⟩ | ⟨hb1, hb⟩
    · subst hy; cases hx
    · rcases T.get_set hb' with ⟨_, hy⟩ | ⟨hb1', hb'⟩
      · subst hy; cases hx
      · exact s.cls b t c b' t' c' B' base base' hb hb' (old hb1 hr) (old hb1' hr')
  · intro b t c l hb hl
    rcases T.get_set hb with ⟨_, hy⟩ | ⟨hb1, hb⟩
    · subst hy; cases hx
    · exact s.mem b t c l hb hl
  · intro b t c hb
    rcases T.get_set hb with ⟨_, hy⟩ | ⟨hb1, hb⟩
    · subst hy; cases hx
    · obtain ⟨p, hp⟩ := s.clsb b t c hb; exact ⟨p, L.get _ _ hp⟩
  · intro b y b' y' B' base base' hb hb' ho ho' hr hr'
    rcases T.get_set hb with ⟨e, hy⟩ | ⟨hb1, hb⟩
    · rcases T.get_set hb' with ⟨e', hy'⟩ | ⟨hb1', hb'⟩
      · exact e.trans e'.symm
      · rw [e, upd_same] at hr; injection hr with hr; injection hr with e1 e2
        have := hlt B' ⟨b', base', _, hb', isObj_wr ho', old hb1' hr'⟩
        omega
    · rcases T.get_set hb' with ⟨e', hy'⟩ | ⟨hb1', hb'⟩
      · rw [e', upd_same] at hr'; injection hr' with hr'; injection hr' with e1 e2
        have := hlt B' ⟨b, base, _, hb, isObj_wr ho, old hb1 hr⟩
        omega
      · exact s.inj b y b' y' B' base base' hb hb' ho ho' (old hb1 hr) (old hb1' hr')
  · intro i p hi
    by_cases e : i = h.next
    · exact Or.inr (by omega)
    · rw [upd_ne e] at hi; exact Or.inl hi
  · rintro B ⟨b, base, y, hb, hy, hr⟩
    rcases T.get_set hb with ⟨e, _⟩ | ⟨hb1, hb⟩
    · rw [e, upd_same] at hr; injection hr with hr; injection hr with e1 e2; exact Or.inl (by omega)
    · exact Or.inr ⟨b, base, y, hb, hy, old hb1 hr⟩

/-- an object that is no row is put in another's place -/
theorem Sim.set_obj (s : Sim ng n0 ρ h w) {b B : Nat} {x0 x : Blk} {o : Obj} (hb0 : h.bl.get b = some x0) (hx0 : isObj x0 = true) (hr0 : ρ b = some (B, 0)) (hx : isObj x = true)
    (hm : ∀ es k, x = .mp es k → ∃ es', o = .map ⟨es'⟩ k ∧ ER ρ es es')
    (hi : ∀ m sn seen st, x = .it m sn seen st → (m = none ∧ o = .mapIter none sn ⟨seen⟩ st) ∨ ∃ k M, m = some k ∧ ρ k = some (M, 0) ∧ o = .mapIter (some M) sn ⟨seen⟩ st)
    (ho : isLp x = true → LR ρ x o := by intro h; cases h) :
    Sim ng n0 ρ ⟨h.next, h.bl.set b x, h.mem⟩ { w with heap := w.heap.setIfInBounds B o } ∧
    Step ρ h w ρ ⟨h.next, h.bl.set b x, h.mem⟩ { w with heap := w.heap.setIfInBounds B o } := by
  have himg : Img ρ h B := ⟨b, 0, x0, hb0, isObj_wr hx0, hr0⟩
  have hlt := img_lt s himg
  have hlow := img_low s himg
  have hsame : ∀ B', B' ≠ B → ({ w with heap := w.heap.setIfInBounds B o } : World).heap[B']? = w.heap[B']? := fun B' hne => by
    show (w.heap.setIfInBounds B o)[B']? = _
    rw [Array.getElem?_setIfInBounds_ne (Ne.symm hne)]
  have hnew : ({ w with heap := w.heap.setIfInBounds B o } : World).heap[B]? = some o := by
    show (w.heap.setIfInBounds B o)[B]? = _
    simp [hlt]
  have hobj : ∀ o', w.cell? ⟨B, o', none⟩ = none := by
    intro o'
    cases x0 with
    | cells t c => cases hx0
    | ro t => cases hx0
    | mp es k => obtain ⟨B', es', h1, _, h3, _⟩ := s.maps _ _ _ hb0; rw [hr0] at h1; injection h1 with h1; injection h1 with e1 e2; subst e1; simp [World.cell?, h3]
    | it m sn seen st =>
      obtain ⟨B', h1, _, h3⟩ := s.iters _ _ _ _ _ hb0; rw [hr0] at h1; injection h1 with h1; injection h1 with e1 e2; subst e1
      rcases h3 with ⟨_, h3⟩ | ⟨_, _, _, _, h3⟩ <;> simp [World.cell?, h3]
    | lp x => obtain ⟨B', _, h1, _, h3, h4⟩ := s.objs _ _ hb0 rfl; rw [hr0] at h1; injection h1 with h1; injection h1 with e1 e2; subst e1; exact h4.nocell h3 o'
    | df x => obtain ⟨B', _, h1, _, h3, h4⟩ := s.objs _ _ hb0 rfl; rw [hr0] at h1; injection h1 with h1; injection h1 with e1 e2; subst e1; exact h4.nocell h3 o'
  have hother : ∀ {b' y base'}, h.bl.get b' = some y → isObj y = true → b' ≠ b → ρ b' = some (B, base') → False := fun hb' hy hne hr' =>
    hne (s.inj _ _ _ _ _ _ _ hb' hb0 hy hx0 hr' hr0)
  refine ⟨⟨s.born, fun i B' base' hi => by simpa using s.inh i B' base' hi, ?_, s.glob, s.lowOk.step (by simp) (fun k hk => hsame k (by omega)), ?_, ?_, ?_, ?_, ?_, ?_, ?_, ?_, ?_⟩, Le.refl ρ, fun _ _ h => Or.inl h, Nat.le_refl _, rfl, rfl, rfl, by simp, ?_, ?_⟩
  · intro b' t c B' base' hb' hr k hk
    rcases T.get_set hb' with ⟨_, hy⟩ | ⟨hb1, hb'⟩
    · subst hy; cases hx
    · obtain ⟨v, h1, h2⟩ := s.rows b' t c B' base' hb' hr k hk
      have hne : B' ≠ B := fun e => by subst e; rw [hobj] at h1; cases h1
      exact ⟨v, by rw [cell_of (hsame B' hne)]; exact h1, by rw [frozen_of (hsame B' hne)]; exact h2⟩
  · intro b' t c hb'
    rcases T.get_set hb' with ⟨_, hy⟩ | ⟨hb1, hb'⟩
    · subst hy; cases hx
    · obtain ⟨B', base', h1, h2, h3, h4⟩ := s.cells b' t c hb'
      refine ⟨B', base', h1, h2, by simpa using h3, fun o' v hv' => ?_⟩
      obtain ⟨v', h5, h6, h7⟩ := h4 o' v hv'
      have hne : B' ≠ B := fun e => by subst e; rw [hobj] at h5; cases h5
      exact ⟨v', by rw [cell_of (hsame B' hne)]; exact h5, by rw [frozen_of (hsame B' hne)]; exact h6, h7⟩
  · intro b' t hb'
    rcases T.get_set hb' with ⟨_, hy⟩ | ⟨hb1, hb'⟩
    · subst hy; cases hx
    · obtain ⟨B', h1, h2, h4⟩ := s.ro b' t hb'
      refine ⟨B', h1, h2, fun o' v hv' => ?_⟩
      obtain ⟨v', h5, h7⟩ := h4 o' v hv'
      exact ⟨v', by rw [cell_of (hsame B' (by omega))]; exact h5, h7⟩
  · intro b' es k hb'
    rcases T.get_set hb' with ⟨e, hy⟩ | ⟨hb1, hb'⟩
    · obtain ⟨es', h1, h2⟩ := hm es k hy
      subst e; subst h1
      exact ⟨B, es', hr0, hlow, hnew, h2⟩
    · obtain ⟨B', es', h1, h2, h3, h4⟩ := s.maps b' es k hb'
      have hne : B' ≠ B := fun e => by subst e; exact hother hb' rfl hb1 h1
      exact ⟨B', es', h1, h2, by rw [hsame B' hne]; exact h3, h4⟩
  · intro b' m sn seen st hb'
    rcases T.get_set hb' with ⟨e, hy⟩ | ⟨hb1, hb'⟩
    · subst e
      refine ⟨B, hr0, hlow, ?_⟩
      rcases hi m sn seen st hy with ⟨h1, h2⟩ | ⟨k, M, h1, h2, h3⟩
      · subst h2; exact Or.inl ⟨h1, hnew⟩
      · subst h3; exact Or.inr ⟨k, M, h1, h2, hnew⟩
    · obtain ⟨B', h1, h2, h3⟩ := s.iters b' m sn seen st hb'
      have hne : B' ≠ B := fun e => by subst e; exact hother hb' rfl hb1 h1
      refine ⟨B', h1, h2, ?_⟩
      rw [hsame B' hne]; exact h3
  · intro b' y hb' hy
    rcases T.get_set hb' with ⟨e, he⟩ | ⟨hb1, hb'⟩
    · subst e; subst he
      exact ⟨B, o, hr0, hlow, hnew, ho hy⟩
    · obtain ⟨B', o', h1, h2, h3, h4⟩ := s.objs b' y hb' hy
      have hne : B' ≠ B := fun e => by subst e; exact hother hb' (by cases y <;> first | rfl | (cases hy; done)) hb1 h1
      exact ⟨B', o', h1, h2, by rw [hsame B' hne]; exact h3, h4⟩
  · intro b1 t c b2 t' c' B' base base' hb1 hb2 hr hr'
    rcases T.get_set hb1 with ⟨_, hy⟩ | ⟨_, hb1⟩
    · subst hy; cases hx
    · rcases T.get_set hb2 with ⟨_, hy⟩ | ⟨_, hb2⟩
      · subst hy; cases hx
      · exact s.cls b1 t c b2 t' c' B' base base' hb1 hb2 hr hr'
  · intro b' t c l hb' hl
    rcases T.get_set hb' with ⟨_, hy⟩ | ⟨hb1, hb'⟩
    · subst hy; cases hx
    · exact s.mem b' t c l hb' hl
  · intro b' t c hb'
    rcases T.get_set hb' with ⟨_, hy⟩ | ⟨hb1, hb'⟩
    · subst hy; cases hx
    · exact s.clsb b' t c hb'
  · intro b1 y1 b2 y2 B' base base' hb1 hb2 ho1 ho2 hr hr'
    rcases T.get_set hb1 with ⟨e1, hy1⟩ | ⟨hn1, hb1⟩
    · rcases T.get_set hb2 with ⟨e2, hy2⟩ | ⟨hn2, hb2⟩
      · exact e1.trans e2.symm
      · rw [e1] at hr ⊢; exact s.inj _ _ _ _ _ _ _ hb0 hb2 hx0 ho2 hr hr'
    · rcases T.get_set hb2 with ⟨e2, hy2⟩ | ⟨hn2, hb2⟩
      · rw [e2] at hr' ⊢; exact s.inj _ _ _ _ _ _ _ hb1 hb0 ho1 hx0 hr hr'
      · exact s.inj _ _ _ _ _ _ _ hb1 hb2 ho1 ho2 hr hr'
  · intro B' _ hn
    exact hsame B' fun e => hn (by subst e; exact himg)
  · rintro B' ⟨b', base, y, hb', hy, hr⟩
    rcases T.get_set hb' with ⟨e, _⟩ | ⟨hb1, hb'⟩
    · subst e; rw [hr0] at hr; injection hr with hr; injection hr with e1 e2; subst e1; exact Or.inr himg
    · exact Or.inr ⟨b', base, y, hb', hy, hr⟩
end
end Go.Ev
