/- A part of an evaluator of runs, and that it is right. -/
import Derived.Test.YtbkojaiecgdodaaDoorEvX
set_option linter.unusedVariables false
set_option linter.unusedSimpArgs false
set_option linter.unusedSectionVars false
namespace Go.Ev
variable [Den]
section
variable {P : Program} {eqs : List Nat} {clone : Sp} {n0 ng : Nat} {ρ : Rho} {h : H} {α : A} {a : Act} {w w' : World}

/-- fewer cells are told -/
theorem Sim.sub (s : Sim ng n0 ρ h w) {o n : Nat} {Tc : Nat → Prop} {bl : T Blk} (hp : Pois o n Tc h.bl bl) : Sim ng n0 ρ ⟨h.next, bl, h.mem⟩ w := by
  have hc : ∀ {b t c}, bl.get b = some (.cells t c) → ∃ t0, h.bl.get b = some (.cells t0 c) ∧ ∀ j v, t.get j = some v → t0.get j = some v := by
    intro b t c hb
    obtain ⟨y, hy, _, g⟩ := hp b _ hb
    obtain ⟨t0, e, k⟩ := g t c rfl
    subst e
    exact ⟨t0, hy, fun j v hv => (k j v hv).1⟩
  have ho : ∀ {b x}, bl.get b = some x → (∀ t c, x ≠ .cells t c) → h.bl.get b = some x := by
    intro b x hb hn
    obtain ⟨y, hy, g, _⟩ := hp b _ hb
    rw [g hn]; exact hy
  refine ⟨s.born, s.inh, ?_, s.glob, s.lowOk, ?_, ?_, ?_, ?_, ?_, ?_, ?_, ?_, ?_⟩
  · intro b t c B base hb hr k hk
    obtain ⟨t0, h1, _⟩ := hc hb
    exact s.rows b t0 c B base h1 hr k hk
  · intro b t c hb
    obtain ⟨t0, h1, h2⟩ := hc hb
    obtain ⟨B, base, h3, h4, h5, h6⟩ := s.cells b t0 c h1
    exact ⟨B, base, h3, h4, h5, fun o v hv => h6 o v (h2 o v hv)⟩
  · intro b t hb; exact s.ro b t (ho hb (by simp))
  · intro b es k hb; exact s.maps b es k (ho hb (by simp))
  · intro b m sn seen st hb; exact s.iters b m sn seen st (ho hb (by simp))
  · intro b x hb hx; exact s.objs b x (ho hb (fun t c e => by subst e; cases hx)) hx
  · intro b t c b' t' c' B base base' hb hb' hr hr'
    obtain ⟨t0, h1, _⟩ := hc hb
    obtain ⟨t0', h1', _⟩ := hc hb'
    exact s.cls _ _ _ _ _ _ _ _ _ h1 h1' hr hr'
  · intro b t c l hb hl
    obtain ⟨t0, h1, _⟩ := hc hb
    exact s.mem _ _ _ _ h1 hl
  · intro b t c hb
    obtain ⟨t0, h1, _⟩ := hc hb
    exact s.clsb _ _ _ h1
  · intro b x b' x' B base base' hb hb' hx hx' hr hr'
    exact s.inj _ _ _ _ _ _ _ (ho hb (fun t c e => by subst e; cases hx)) (ho hb' (fun t c e => by subst e; cases hx')) hx hx' hr hr'
theorem Img.sub {o n : Nat} {Tc : Nat → Prop} {bl : T Blk} (hp : Pois o n Tc h.bl bl) {B : Nat} (hi : Img ρ ⟨h.next, bl, h.mem⟩ B) : Img ρ h B := by
  obtain ⟨b, base, x, hb, hx, hr⟩ := hi
  obtain ⟨y, hy, g1, g2⟩ := hp b _ hb
  refine ⟨b, base, y, hy, ?_, hr⟩
  cases x with
  | cells t c => obtain ⟨t0, e, _⟩ := g2 t c rfl; subst e; rfl
  | ro t => cases hx
  | mp es k => have := g1 (by simp); subst this; rfl
  | it m sn seen st => have := g1 (by simp); subst this; rfl
  | lp x => have := g1 (by simp); subst this; rfl
  | df x => have := g1 (by simp); subst this; rfl

/-- a number more, for a row that is new or for one that is there -/
theorem Sim.add_row (s : Sim ng n0 ρ h w) {B base lim cl : Nat} {l : List Nat} {vs : List Value} (hl : ∀ i base', ρ i = some (B, base') → lim = ρ.lim B) (hlow : n0 ≤ B) (hlt : B < w.heap.size)
    (hrow : ∀ k, k < lim → ∃ v, w.cell? ⟨B, k, none⟩ = some v ∧ w.frozen? ⟨B, k, none⟩ = false)
    (hv : ∀ (i : Nat) (v : Value), vs[i]? = some v → ∃ v', w.cell? ⟨B, base + i, none⟩ = some v' ∧ w.frozen? ⟨B, base + i, none⟩ = false ∧ VR ρ v v')
    (hcls : ∀ b t c base', h.bl.get b = some (.cells t c) → ρ b = some (B, base') → base = base' ∧ cl = c)
    (hmem : ∀ b t, h.bl.get b = some (.cells t cl) → b ∈ l) (hclb : cl = h.next ∨ ∃ p, ρ cl = some p) :
    Sim ng n0 (upd ρ h.next B base lim) ⟨Nat.succ h.next, h.bl.set h.next (.cells (T.setL vs 0 .leaf) cl), h.mem.set cl (h.next :: l)⟩ w := by
  have hid := s.next_none
  have L := upd_le hid B base lim hl
  have hne : ∀ {b x}, h.bl.get b = some x → b ≠ h.next := fun hb => by obtain ⟨p, hp⟩ := s.live hb; exact s.born_ne hid hp
  have old : ∀ {b B' base'}, b ≠ h.next → upd ρ h.next B base lim b = some (B', base') → ρ b = some (B', base') := fun hb hu => by rwa [upd_ne hb] at hu
  refine ⟨?_, ?_, ?_, fun g hg => L.get _ _ (s.glob g hg), s.lowOk, ?_, ?_, ?_, ?_, ?_, ?_, ?_, ?_, ?_⟩
  · intro i p hi
    by_cases e : i = h.next
    · subst e; exact Nat.lt_succ_self _
    · rw [upd_ne e] at hi; exact Nat.lt_succ_of_lt (s.born i p hi)
  · intro i B' base' hi
    by_cases e : i = h.next
    · rw [e, upd_same] at hi; injection hi with hi; injection hi with e1 e2; subst e1; exact hlt
    · exact s.inh i B' base' (old e hi)
  · intro b t c B' base' hb hr k hk
    by_cases eB : B' = B
    · subst eB; rw [upd_lim] at hk; exact hrow k hk
    · rw [upd_lim_ne eB] at hk
      rcases T.get_set hb with ⟨e, hx⟩ | ⟨hb1, hb⟩
      · rw [e, upd_same] at hr; injection hr with hr; injection hr with e1 e2; exact absurd e1.symm eB
      · exact s.rows b t c B' base' hb (old hb1 hr) k hk
  · intro b t c hb
    rcases T.get_set hb with ⟨e, hx⟩ | ⟨hb1, hb⟩
    · injection hx with hx1 hx2; subst hx1; subst hx2; subst e
      refine ⟨B, base, upd_same _ _ _ _ _, hlow, hlt, fun o v hv' => ?_⟩
      rcases T.get_setL _ _ _ _ _ hv' with ⟨_, h1⟩ | ⟨_, h1⟩
      · simp only [Nat.sub_zero] at h1
        obtain ⟨v', h2, h3, h4⟩ := hv _ _ h1
        exact ⟨v', h2, h3, h4.mono L⟩
      · cases h1
    · obtain ⟨B', base', h1, h2, h3, h4⟩ := s.cells b t c hb
      exact ⟨B', base', L.get _ _ h1, h2, h3, fun o v hv' => let ⟨v', h5, h6, h7⟩ := h4 o v hv'; ⟨v', h5, h6, h7.mono L⟩⟩
  · intro b t hb
    rcases T.get_set hb with ⟨_, hx⟩ | ⟨hb1, hb⟩
    · cases hx
    · obtain ⟨B', h1, h2, h4⟩ := s.ro b t hb
      exact ⟨B', L.get _ _ h1, h2, fun o v hv' => let ⟨v', h5, h7⟩ := h4 o v hv'; ⟨v', h5, h7.mono L⟩⟩
  · intro b es k hb
    rcases T.get_set hb with ⟨_, hx⟩ | ⟨hb1, hb⟩
    · cases hx
    · obtain ⟨B', es', h1, h2, h3, h4⟩ := s.maps b es k hb
      exact ⟨B', es', L.get _ _ h1, h2, h3, h4.mono L⟩
  · intro b m sn seen st hb
    rcases T.get_set hb with ⟨_, hx⟩ | ⟨hb1, hb⟩
    · cases hx
    · obtain ⟨B', h1, h2, h3⟩ := s.iters b m sn seen st hb
      refine ⟨B', L.get _ _ h1, h2, ?_⟩
      rcases h3 with h3 | ⟨k, M, h3, h4, h5⟩
      · exact Or.inl h3
      · exact Or.inr ⟨k, M, h3, L.get _ _ h4, h5⟩
  · intro b x hb hx
    rcases T.get_set hb with ⟨_, hy⟩ | ⟨hb1, hb⟩
    · subst hy; cases hx
    · obtain ⟨B', o, h1, h2, h3, h4⟩ := s.objs b x hb hx
      exact ⟨B', o, L.get _ _ h1, h2, h3, h4.mono L⟩
  · intro b t c b' t' c' B' base1 base2 hb0 hb0' hr hr'
    rcases T.get_set hb0 with ⟨e1, hx⟩ | ⟨hb1, hb⟩
    · rcases T.get_set hb0' with ⟨e2, hx'⟩ | ⟨hb1', hb'⟩
      · injection hx with hx1 hx2; injection hx' with hx1' hx2'
        rw [e1] at hr; rw [e2] at hr'
        rw [hr] at hr'; injection hr' with hr'; injection hr' with e1 e2
        exact ⟨e2, by rw [← hx2, ← hx2']⟩
      · rw [e1, upd_same] at hr; injection hr with hr; injection hr with e1 e2
        injection hx with hx1 hx2
        have hr2 := old hb1' hr'
        rw [← e1] at hr2
        obtain ⟨e3, e4⟩ := hcls _ _ _ _ hb' hr2
        exact ⟨by rw [← e2, e3], by rw [← hx2, e4]⟩
    · rcases T.get_set hb0' with ⟨e2, hx'⟩ | ⟨hb1', hb'⟩
      · rw [e2, upd_same] at hr'; injection hr' with hr'; injection hr' with e1 e2
        injection hx' with hx1 hx2
        have hr2 := old hb1 hr
        rw [← e1] at hr2
        obtain ⟨e3, e4⟩ := hcls _ _ _ _ hb hr2
        exact ⟨by rw [← e2, e3], by rw [← hx2, e4]⟩
      · exact s.cls b t c b' t' c' B' base1 base2 hb hb' (old hb1 hr) (old hb1' hr')
  · intro b t c l' hb0 hl0
    rcases T.get_set hb0 with ⟨e, hx⟩ | ⟨hb1, hb⟩
    · injection hx with hx1 hx2
      rcases T.get_set hl0 with ⟨_, hl1⟩ | ⟨hne', _⟩
      · rw [← hl1, e]; simp
      · exact absurd hx2.symm hne'
    · rcases T.get_set hl0 with ⟨e, hl1⟩ | ⟨_, hl1⟩
      · rw [← hl1]; exact List.mem_cons_of_mem _ (hmem b t (by rw [← e]; exact hb))
      · exact s.mem b t c l' hb hl1
  · intro b t c hb0
    rcases T.get_set hb0 with ⟨e, hx⟩ | ⟨hb1, hb⟩
    · injection hx with hx1 hx2
      rw [← hx2]
      rcases hclb with e2 | ⟨p, hp⟩
      · rw [e2]; exact ⟨_, upd_same _ _ _ _ _⟩
      · exact ⟨p, L.get _ _ hp⟩
    · obtain ⟨p, hp⟩ := s.clsb b t c hb
      exact ⟨p, L.get _ _ hp⟩
  · intro b x b' x' B' base1 base2 hb0 hb0' ho ho' hr hr'
    rcases T.get_set hb0 with ⟨e1, hx⟩ | ⟨hb1, hb⟩
    · subst hx; cases ho
    · rcases T.get_set hb0' with ⟨e2, hx'⟩ | ⟨hb1', hb'⟩
      · subst hx'; cases ho'
      · exact s.inj b x b' x' B' base1 base2 hb hb' ho ho' (old hb1 hr) (old hb1' hr')

theorem firstE_sound (s : Sim ng n0 ρ h w) {size n m : Nat} {x x' : Value} {l : List Value} (hx : VR ρ x x') (hn : lenV x = some m) (hle : n ≤ m) (hl : firstE h size n x = some l) :
    ∃ l', (∀ d, (Builtin.firstCells size n x').run P { w with drawn := d } = .ok ⟨l'⟩ { w with drawn := d }) ∧ VRs ρ l l' := by
  unfold firstE at hl
  split at hl
  · rename_i b o k c
    rw [bi_eq] at hl
    split at hl
    · -- nothing is read
      rename_i hz
      have hz : n = 0 := Nat.eq_of_beq_eq_true hz
      subst hz
      injection hl with hl; subst hl
      cases hx <;> exact ⟨[], fun d => by simp [Builtin.firstCells, loadCells, loadCellsFrom], .nil⟩
    rw [ob_some] at hl
    obtain ⟨t, ht, hl⟩ := hl
    cases hx with
    | slice b o n' c' B base c'' hb hc hn' =>
      obtain ⟨l', h1, h2, h3⟩ := load_cells (P := P) hl (cellsAt_sound s hb ht)
      refine ⟨l', fun d => ?_, h2⟩
      have h4 := run_loadCells_list (P := P) { w with drawn := d } ⟨B, base + o, none⟩ l' fun j v hv => by rw [addr_add]; exact h3 j v hv
      have h5 : l'.length = n * size := by rw [← h2.length]; exact (getN_get hl).1
      rw [h5] at h4
      exact h4
    | slice0 b o a' c' hc =>
      injection hn with hn; subst hn
      have : n = 0 := by omega
      subst this
      rw [Nat.zero_mul] at hl; injection hl with hl; subst hl
      exact ⟨[], fun d => by simp [Builtin.firstCells, loadCells, loadCellsFrom], .nil⟩
  · injection hl with hl; subst hl
    cases hx
    exact ⟨[], fun d => by simp [Builtin.firstCells], .nil⟩
  · injection hl with hl; subst hl
    cases hx
    rename_i str
    refine ⟨((strL str).take n).map fun b => .int .u8 b.toNat, fun d => ?_, ?_⟩
    · simp only [Builtin.firstCells, Sem.run_pure]
      congr 1
      apply Array.ext'
      have : (str.extract 0 n).data.toList = (strL str).take n := by simp [ByteArray.data_extract, strL]
      simp [strL]
    · generalize (strL str).take n = q
      induction q with
      | nil => exact .nil
      | cons b q ih => exact .cons _ _ _ _ (.int _ _) ih
  · cases hl
end
end Go.Ev
