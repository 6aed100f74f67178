/- A part of an evaluator of runs, and that it is right. -/
import Derived.Test.YtbkojaiecgdodaaDoorEvW
set_option linter.unusedVariables false
set_option linter.unusedSimpArgs false
set_option linter.unusedSectionVars false
namespace Go.Ev
variable [Den]
section
variable {P : Program} {eqs : List Nat} {clone : Sp} {n0 ng : Nat} {ρ : Rho} {h : H} {α : A} {a : Act} {w w' : World}

theorem delN_zero (o : Nat) (t : T Value) : delN 0 o t = t := rfl
theorem delN_succ (n o : Nat) (t : T Value) : delN (n + 1) o t = delN n (o + 1) (t.del o) := rfl
theorem delN_get : ∀ (n o : Nat) (t : T Value) (j : Nat) (v : Value), (delN n o t).get j = some v → ¬ (o ≤ j ∧ j < o + n) ∧ t.get j = some v
  | 0, o, t, j, v, h => ⟨by omega, h⟩
  | n + 1, o, t, j, v, h => by
    rw [delN_succ] at h
    obtain ⟨h1, h2⟩ := delN_get n (o + 1) _ j v h
    obtain ⟨h3, h4⟩ := T.get_del h2
    exact ⟨by omega, h4⟩

/-- behind a poisoning: block by block -/
def Pois (o n : Nat) (touched : Nat → Prop) (bl bl' : T Blk) : Prop :=
  ∀ b x, bl'.get b = some x → ∃ y, bl.get b = some y ∧
    ((∀ t c, x ≠ .cells t c) → x = y) ∧ (∀ t c, x = .cells t c → ∃ t0, y = .cells t0 c ∧ ∀ j v, t.get j = some v → t0.get j = some v ∧ (touched b → ¬ (o ≤ j ∧ j < o + n)))
theorem poison1_get (o n b : Nat) (bl : T Blk) : Pois o n (fun b' => b' = b) bl (poison1 o n b bl) := by
  intro b' x hx
  unfold poison1 at hx
  split at hx
  · rename_i t c hb
    rcases T.get_set hx with ⟨rfl, hy⟩ | ⟨hne, hx⟩
    · subst hy
      refine ⟨_, hb, fun hn => absurd rfl (hn _ _), fun t' c' he => ?_⟩
      injection he with e1 e2; subst e1; subst e2
      exact ⟨t, rfl, fun j v hv => let ⟨h1, h2⟩ := delN_get _ _ _ _ _ hv; ⟨h2, fun _ => h1⟩⟩
    · exact ⟨x, hx, fun _ => rfl, fun t' c' he => ⟨t', he, fun j v hv => ⟨hv, fun h => absurd h hne⟩⟩⟩
  · rename_i hn
    refine ⟨x, hx, fun _ => rfl, fun t' c' he => ⟨t', he, fun j v hv => ⟨hv, fun h => ?_⟩⟩⟩
    subst h; subst he; exact absurd hx (hn _ _)
theorem Pois.refl (o n : Nat) (bl : T Blk) : Pois o n (fun _ => False) bl bl :=
  fun b x hx => ⟨x, hx, fun _ => rfl, fun t c he => ⟨t, he, fun j v hv => ⟨hv, fun h => h.elim⟩⟩⟩
theorem Pois.trans {o n : Nat} {T1 T2 : Nat → Prop} {a b c : T Blk} (h1 : Pois o n T1 a b) (h2 : Pois o n T2 b c) : Pois o n (fun x => T1 x ∨ T2 x) a c := by
  intro x y hy
  obtain ⟨z, hz, h3, h4⟩ := h2 x y hy
  obtain ⟨u, hu, h5, h6⟩ := h1 x z hz
  refine ⟨u, hu, fun hn => ?_, fun t c he => ?_⟩
  · have := h3 hn; subst this; exact h5 hn
  · obtain ⟨t0, h7, h8⟩ := h4 t c he
    obtain ⟨t1, h9, h10⟩ := h6 t0 c h7
    refine ⟨t1, h9, fun j v hv => ?_⟩
    obtain ⟨h11, h12⟩ := h8 j v hv
    obtain ⟨h13, h14⟩ := h10 j v h11
    exact ⟨h13, fun h => h.elim h14 h12⟩
theorem poison_cons (o n skip b : Nat) (l : List Nat) (bl : T Blk) : poison o n skip (b :: l) bl = poison o n skip l (bi (Nat.beq b skip) bl (poison1 o n b bl)) := rfl
theorem poison_get (o n skip : Nat) : ∀ (l : List Nat) (bl : T Blk), Pois o n (fun b => b ∈ l ∧ b ≠ skip) bl (poison o n skip l bl)
  | [], bl => fun b x hx => let ⟨y, h1, h2, h3⟩ := Pois.refl o n bl b x hx; ⟨y, h1, h2, fun t c he => let ⟨t0, h4, h5⟩ := h3 t c he; ⟨t0, h4, fun j v hv => ⟨(h5 j v hv).1, fun h => by simp at h⟩⟩⟩
  | a :: l, bl => by
    rw [poison_cons, bi_eq]
    split
    · rename_i he
      have he := Nat.eq_of_beq_eq_true he
      intro b x hx
      obtain ⟨y, h1, h2, h3⟩ := poison_get o n skip l bl b x hx
      refine ⟨y, h1, h2, fun t c he' => ?_⟩
      obtain ⟨t0, h4, h5⟩ := h3 t c he'
      refine ⟨t0, h4, fun j v hv => ⟨(h5 j v hv).1, fun h => (h5 j v hv).2 ?_⟩⟩
      rcases List.mem_cons.1 h.1 with h6 | h6
      · exact absurd (h6.trans he) h.2
      · exact ⟨h6, h.2⟩
    · intro b x hx
      obtain ⟨y, h1, h2, h3⟩ := ((poison1_get o n a bl).trans (poison_get o n skip l _)) b x hx
      refine ⟨y, h1, h2, fun t c he' => ?_⟩
      obtain ⟨t0, h4, h5⟩ := h3 t c he'
      refine ⟨t0, h4, fun j v hv => ⟨(h5 j v hv).1, fun h => (h5 j v hv).2 ?_⟩⟩
      rcases List.mem_cons.1 h.1 with h6 | h6
      · exact Or.inl h6
      · exact Or.inr ⟨h6, h.2⟩

theorem setCells_heap (B : Nat) : ∀ (vs : List Value) (o : Nat) (w : World) (k : Nat), k ≠ B → (w.setCells B o vs).heap[k]? = w.heap[k]?
  | [], _, _, _, _ => rfl
  | v :: r, o, w, k, hk => by
    rw [World.setCells, setCells_heap B r (o + 1) _ k hk]
    simp only [World.setCell, Array.getElem?_modify]
    rw [if_neg (fun e => hk e.symm)]
theorem setCells_size (B : Nat) : ∀ (vs : List Value) (o : Nat) (w : World), (w.setCells B o vs).heap.size = w.heap.size
  | [], _, _ => rfl
  | v :: r, o, w => by rw [World.setCells, setCells_size B r (o + 1)]; simp [World.setCell]
theorem setCells_rest (B : Nat) : ∀ (vs : List Value) (o : Nat) (w : World), (w.setCells B o vs).os = w.os ∧ (w.setCells B o vs).tape = w.tape ∧ (w.setCells B o vs).output = w.output
  | [], _, _ => ⟨rfl, rfl, rfl⟩
  | v :: r, o, w => by rw [World.setCells]; exact setCells_rest B r (o + 1) _
/-- a map stays one -/
theorem setCells_obj {x : Obj} (B : Nat) (hx : ∀ c e f, x ≠ .cells c e f) : ∀ (vs : List Value) (o : Nat) (w : World) (k : Nat), w.heap[k]? = some x → (w.setCells B o vs).heap[k]? = some x
  | [], _, _, _, h => h
  | v :: r, o, w, k, h => by
    rw [World.setCells]
    refine setCells_obj B hx r (o + 1) _ k ?_
    simp only [World.setCell, Array.getElem?_modify]
    split
    · rename_i e; subst e; rw [h]
      cases x <;> first | rfl | exact absurd rfl (hx _ _ _)
    · exact h

theorem scalL_mem {l : List Value} (h : scalL l = true) : ∀ v ∈ l, scal1 v = true := by
  induction l with
  | nil => intro v hv; cases hv
  | cons u l ih =>
    simp only [scalL, bi_tf] at h
    intro v hv
    rcases List.mem_cons.1 hv with rfl | hv
    · exact h.1
    · exact ih h.2 v hv
theorem scal_one {l m : List Value} (h : scalL l = true) (hv : VRs ρ l m) : ∀ v ∈ m, v.oneCell' = true := by
  induction l generalizing m with
  | nil => cases hv; intro v hv; cases hv
  | cons u l ih =>
    cases hv with
    | cons _ u' _ m' h1 h2 =>
      simp only [scalL, bi_tf] at h
      intro v hv
      rcases List.mem_cons.1 hv with rfl | hv
      · have := h.1
        cases h1 with
        | sym c _ hw hs => cases v <;> first | rfl | (cases hs; done)
        | opq c _ hw hs => cases v <;> first | rfl | (cases hs; done)
        | _ => first | rfl | (cases this)
      · exact ih h.2 h2 v hv

/-- cells are stored in a row -/
theorem storeRow_sound (s : Sim ng n0 ρ h w) {b B base o : Nat} {vs vs' : List Value} {h' : H} (hr : ρ b = some (B, base)) (hv : VRs ρ vs vs') (hs : storeRow h b o vs = some h') :
    (storeCells ⟨B, base + o, none⟩ vs').run P w = .ok () (w.setCells B (base + o) vs') ∧ Sim ng n0 ρ h' (w.setCells B (base + o) vs') ∧ Step ρ h w ρ h' (w.setCells B (base + o) vs') := by
  unfold storeRow at hs
  rw [bi_some_none, ob_some] at hs
  obtain ⟨hsc, x, hx, hs⟩ := hs
  split at hs
  · rename_i t c
    rw [bi_some_none, om_some] at hs
    obtain ⟨hg, l, hl, rfl⟩ := hs
    cases hgn : getN t vs.length o with
    | none => rw [hgn] at hg; cases hg
    | some us =>
    obtain ⟨hul, hus⟩ := getN_get hgn
    obtain ⟨B', base', h1, h2, h3, h4⟩ := s.cells b t c hx
    rw [hr] at h1; injection h1 with h1; injection h1 with e1 e2; subst e1; subst e2
    have himg : Img ρ h B := ⟨b, base, _, hx, rfl, hr⟩
    have hlen := hv.length
    have hcell : ∀ j, j < vs'.length → ∃ v', w.cell? ⟨B, base + o + j, none⟩ = some v' ∧ w.frozen? ⟨B, base + o + j, none⟩ = false := by
      intro j hj
      have hj' : j < us.length := by omega
      obtain ⟨v', h5, h6, _⟩ := h4 (o + j) us[j] (hus j _ (List.getElem?_eq_getElem hj'))
      exact ⟨v', by rwa [Nat.add_assoc], by rwa [Nat.add_assoc]⟩
    have hrun := run_storeCells_cells (P := P) B (base + o) vs' 0 w (fun j hj => by obtain ⟨v', h5, _⟩ := hcell j hj; simp [h5]) (fun j hj => by obtain ⟨v', _, h6⟩ := hcell j hj; simpa using h6) (scal_one hsc hv)
    simp only [Nat.add_zero] at hrun
    have hp := poison_get o vs.length b l (h.bl.set b (.cells (T.setL vs o t) c))
    -- what a block held ahead of it
    have hback : ∀ {b' x'}, (poison o vs.length b l (h.bl.set b (.cells (T.setL vs o t) c))).get b' = some x' → ∃ y, h.bl.get b' = some y ∧ ((∀ t c, x' ≠ .cells t c) → x' = y) ∧
        (∀ t' c', x' = .cells t' c' → ∃ t0, y = .cells t0 c') := by
      intro b' x' hb'
      obtain ⟨y, hy, h5, h6⟩ := hp b' x' hb'
      rcases T.get_set hy with ⟨rfl, he⟩ | ⟨hne, hy⟩
      · subst he
        refine ⟨_, hx, fun hn => ?_, fun t' c' he => ?_⟩
        · have := h5 hn; exact absurd this (hn _ _)
        · obtain ⟨t0, h7, _⟩ := h6 t' c' he; injection h7 with e1 e2; subst e2; exact ⟨t, rfl⟩
      · exact ⟨y, hy, h5, fun t' c' he => let ⟨t0, h7, _⟩ := h6 t' c' he; ⟨t0, h7⟩⟩
    obtain ⟨r1, r2, r3⟩ := setCells_rest B vs' (base + o) w
    refine ⟨hrun, ⟨s.born, fun i B' base' hi => by rw [setCells_size]; exact s.inh i B' base' hi, ?_, s.glob, s.lowOk.step (by rw [setCells_size]; exact Nat.le_refl _) (fun k hk => setCells_heap B vs' _ w k (by omega)), ?_, ?_, ?_, ?_, ?_, ?_, ?_, ?_, ?_⟩, Le.refl ρ, fun _ _ h => Or.inl h, Nat.le_refl _, r1, r2, r3, by rw [setCells_size]; exact Nat.le_refl _, ?_, ?_⟩
    · intro b' t' c' B' base' hb' hr' k hk
      obtain ⟨y, hy, _, g⟩ := hback hb'
      obtain ⟨t0, e0⟩ := g t' c' rfl
      subst e0
      obtain ⟨v, k1, k2⟩ := s.rows _ _ _ _ _ hy hr' k hk
      rw [World.frozen?_setCells]
      by_cases eB : B' = B
      · subst eB
        by_cases hin : base + o ≤ k ∧ k < base + o + vs'.length
        · have hlt : k - (base + o) < vs'.length := by omega
          have := World.cell?_setCells_in B' vs' (base + o) w (fun j hj => by obtain ⟨v', h5, _⟩ := hcell j hj; simp [h5]) (k - (base + o)) hlt
          rw [show base + o + (k - (base + o)) = k by omega] at this
          exact ⟨_, this, k2⟩
        · exact ⟨v, by rw [World.cell?_setCells_out B' vs' (base + o) w _ (fun _ _ => by simp only; omega)]; exact k1, k2⟩
      · exact ⟨v, by rw [cell_of (setCells_heap B vs' (base + o) w B' eB)]; exact k1, k2⟩
    · intro b' t' c' hb'
      obtain ⟨y, hy, _, h6⟩ := hp b' _ hb'
      obtain ⟨t0, h7, h8⟩ := h6 t' c' rfl
      subst h7
      rcases T.get_set hy with ⟨e, he⟩ | ⟨hne, hy⟩
      · injection he with e1 e2; subst e1; subst e2
        subst e
        refine ⟨B, base, hr, h2, by rw [setCells_size]; exact h3, fun j v hv' => ?_⟩
        obtain ⟨h9, _⟩ := h8 j v hv'
        rw [World.frozen?_setCells]
        rcases T.get_setL _ _ _ _ _ h9 with ⟨h10, h11⟩ | ⟨h10, h11⟩
        · obtain ⟨v', h12, h13⟩ := hv.get h11
          have hlt := (List.getElem?_eq_some_iff.1 h12).1
          have hin := World.cell?_setCells_in B vs' (base + o) w (fun j hj => by obtain ⟨v', h5, _⟩ := hcell j hj; simp [h5]) (j - o) hlt
          obtain ⟨_, _, hfz⟩ := hcell (j - o) hlt
          have e3 : base + o + (j - o) = base + j := by omega
          rw [e3] at hin hfz
          rw [List.getElem?_eq_getElem hlt] at h12
          exact ⟨v', by rw [hin]; exact h12, hfz, h13⟩
        · obtain ⟨v', h5, h6', h7'⟩ := h4 j v h11
          refine ⟨v', ?_, h6', h7'⟩
          rw [World.cell?_setCells_out B vs' (base + o) w _ (fun _ _ => by simp only; omega)]
          exact h5
      · obtain ⟨B2, base2, k1, k2, k3, k4⟩ := s.cells b' t0 c' hy
        refine ⟨B2, base2, k1, k2, by rw [setCells_size]; exact k3, fun j v hv' => ?_⟩
        obtain ⟨h9, h10⟩ := h8 j v hv'
        obtain ⟨v', k5, k6, k7⟩ := k4 j v h9
        rw [World.frozen?_setCells]
        refine ⟨v', ?_, k6, k7⟩
        by_cases eB : B2 = B
        · subst eB
          obtain ⟨e1, e2⟩ := s.cls _ _ _ _ _ _ _ _ _ hx hy hr k1
          subst e1; subst e2
          have hm := s.mem b' t0 c l hy hl
          have := h10 ⟨hm, hne⟩
          rw [World.cell?_setCells_out B2 vs' (base + o) w _ (fun _ _ => by simp only; omega)]
          exact k5
        · rw [cell_of (setCells_heap B vs' (base + o) w B2 eB)]; exact k5
    · intro b' t' hb'
      obtain ⟨y, hy, h5, _⟩ := hback hb'
      have := h5 (by simp); subst this
      obtain ⟨B2, k1, k2, k4⟩ := s.ro b' t' hy
      refine ⟨B2, k1, k2, fun j v hv' => ?_⟩
      obtain ⟨v', k5, k7⟩ := k4 j v hv'
      exact ⟨v', by rw [cell_of (setCells_heap B vs' (base + o) w B2 (by omega))]; exact k5, k7⟩
    · intro b' es k hb'
      obtain ⟨y, hy, h5, _⟩ := hback hb'
      have := h5 (by simp); subst this
      obtain ⟨B2, es', k1, k2, k3, k4⟩ := s.maps b' es k hy
      exact ⟨B2, es', k1, k2, setCells_obj B (by simp) vs' _ w B2 k3, k4⟩
    · intro b' m sn seen st hb'
      obtain ⟨y, hy, h5, _⟩ := hback hb'
      have := h5 (by simp); subst this
      obtain ⟨B2, k1, k2, k3⟩ := s.iters b' m sn seen st hy
      refine ⟨B2, k1, k2, ?_⟩
      rcases k3 with ⟨k3, k4⟩ | ⟨k, M, k3, k4, k5⟩
      · exact Or.inl ⟨k3, setCells_obj B (by simp) vs' _ w B2 k4⟩
      · exact Or.inr ⟨k, M, k3, k4, setCells_obj B (by simp) vs' _ w B2 k5⟩
    · intro b' x hb' hx
      obtain ⟨y, hy, h5, _⟩ := hback hb'
      have := h5 (fun t c e => by subst e; cases hx); subst this
      obtain ⟨B2, o2, k1, k2, k3, k4⟩ := s.objs b' x hy hx
      exact ⟨B2, o2, k1, k2, setCells_obj B k4.nocells vs' _ w B2 k3, k4⟩
    · intro b1 t1 c1 b2 t2 c2 B' d1 d2 hb1 hb2 q1 q2
      obtain ⟨y1, hy1, _, g1⟩ := hback hb1
      obtain ⟨y2, hy2, _, g2⟩ := hback hb2
      obtain ⟨t1', e1⟩ := g1 t1 c1 rfl
      obtain ⟨t2', e2⟩ := g2 t2 c2 rfl
      subst e1; subst e2
      exact s.cls _ _ _ _ _ _ _ _ _ hy1 hy2 q1 q2
    · intro b1 t1 c1 l' hb1 hl'
      obtain ⟨y1, hy1, _, g1⟩ := hback hb1
      obtain ⟨t1', e1⟩ := g1 t1 c1 rfl
      subst e1
      exact s.mem _ _ _ _ hy1 hl'
    · intro b1 t1 c1 hb1
      obtain ⟨y1, hy1, _, g1⟩ := hback hb1
      obtain ⟨t1', e1⟩ := g1 t1 c1 rfl
      subst e1
      exact s.clsb _ _ _ hy1
    · intro b1 x1 b2 x2 B' d1 d2 hb1 hb2 o1 o2 q1 q2
      obtain ⟨y1, hy1, g1, _⟩ := hback hb1
      obtain ⟨y2, hy2, g2, _⟩ := hback hb2
      have e1 := g1 (fun t c e => by subst e; cases o1)
      have e2 := g2 (fun t c e => by subst e; cases o2)
      subst e1; subst e2
      exact s.inj _ _ _ _ _ _ _ hy1 hy2 o1 o2 q1 q2
    · intro B' _ hn
      exact setCells_heap B vs' _ w B' fun e => hn (by subst e; exact himg)
    · rintro B' ⟨b', d, y, hb', hw, q⟩
      obtain ⟨y1, hy1, g1, g2⟩ := hback hb'
      refine Or.inr ⟨b', d, y1, hy1, ?_, q⟩
      cases y with
      | cells t1 c1 => obtain ⟨t1', e1⟩ := g2 t1 c1 rfl; subst e1; rfl
      | ro t1 => cases hw
      | mp es k => have := g1 (by simp); subst this; rfl
      | it m sn seen st => have := g1 (by simp); subst this; rfl
      | lp x => have := g1 (by simp); subst this; rfl
      | df x => have := g1 (by simp); subst this; rfl
  · cases hs
end
end Go.Ev
