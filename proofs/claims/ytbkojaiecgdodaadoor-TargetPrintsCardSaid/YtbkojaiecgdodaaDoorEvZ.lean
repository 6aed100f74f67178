/- A part of an evaluator of runs, and that it is right. -/
import Derived.Test.YtbkojaiecgdodaaDoorEvY
set_option linter.unusedVariables false
set_option linter.unusedSimpArgs false
set_option linter.unusedSectionVars false
namespace Go.Ev
variable [Den]
section
variable {P : Program} {eqs : List Nat} {clone : Sp} {n0 ng : Nat} {ρ : Rho} {h : H} {α : A} {a : Act} {w w' : World}

theorem grow_le (newLen : Nat) : ∀ (r c : Nat), Builtin.growBy newLen r c ≤ c + r * 1000000 + r * newLen ∨ True := fun _ _ => Or.inr trivial
theorem growBy_le (m : Nat) : ∀ (r c : Nat), c ≤ m → Builtin.growBy m r c ≤ m + (m + 768) / 4 + 0 := by
  intro r
  induction r with
  | zero => intro c hc; simp [Builtin.growBy]; omega
  | succ r ih =>
    intro c hc
    simp only [Builtin.growBy]
    split
    · omega
    · rename_i h1
      by_cases h2 : c + (c + 768) / 4 ≤ m
      · exact ih _ h2
      · have : ∀ r, Builtin.growBy m r (c + (c + 768) / 4) = c + (c + 768) / 4 := by
          intro r; cases r with
          | zero => rfl
          | succ r => simp only [Builtin.growBy]; rw [if_pos (by omega)]
        rw [this]; omega
theorem nextcap_le {need cap : Nat} (h : cap < need) : Builtin.nextslicecap need cap ≤ 2 * need + 1000 := by
  unfold Builtin.nextslicecap
  split
  · omega
  · split
    · omega
    · have := growBy_le need 4 cap (by omega); omega

theorem zeroCells_size (z : Array Value) (n : Nat) : (Builtin.zeroCells z n).size = n * z.size := by simp [Builtin.zeroCells]

/-- append where there is no room: a new row -/
theorem append_grow {st xt e ty : TypeId} {r re rx : TR} {z : Value} {base : Option Addr} {sl cap n : Nat} {x : Value} {old new : List Value}
    (hr : (Env.of P eqs clone).ty.get st = some r) (hty : r.u = .slice e) (hre : (Env.of P eqs clone).ty.get e = some re) (hz : re.zero = some z)
    (hrx : (Env.of P eqs clone).ty.get xt = some rx) (hni : ∀ k, rx.u ≠ .int k) (hb : re.bytes < 1000000) (hneed : sl + n < 1000000) (hcap : cap < sl + n)
    (hlen : (Builtin.lenOf x).run P w = .ok n w)
    (hold : ∀ d, (Builtin.firstCells re.size sl (.slice base sl cap)).run P { w with drawn := d } = .ok ⟨old⟩ { w with drawn := d })
    (hnew : ∀ d, (Builtin.firstCells re.size n x).run P { w with drawn := d } = .ok ⟨new⟩ { w with drawn := d }) :
    ∃ newCap, sl + n ≤ newCap ∧ (Builtin.append_ #[st, xt] ty #[.slice base sl cap, x]).run P w =
      .ok (.slice (some ⟨w.heap.size, 0, none⟩) (sl + n) newCap) { w with drawn := w.drawn + 1, heap := w.heap.push (.cells ((⟨old⟩ : Array Value) ++ (⟨new⟩ : Array Value) ++ Builtin.zeroCells z.cells (newCap - (sl + n))) e) } := by
  obtain ⟨ie, hi1, _, hi2, hi3, hi4⟩ := ty_spec hre
  have hinfo : ∀ w, (typeInfo e).run P w = .ok ie w := fun w => by simp [typeInfo, hi1]
  refine ⟨(Question.appendCap (sl + n) cap e).cut (w.tape w.drawn (.appendCap (sl + n) cap e)), ?_, ?_⟩
  · simp [Question.cut]
  · have h1 : ¬ (sl + n ≤ cap) := by omega
    have h2 : ¬ ((sl + n : Nat) : Int) > IntKind.i64.max := by
      have : IntKind.i64.max = 9223372036854775807 := rfl
      omega
    have h3 : ¬ (Builtin.nextslicecap (sl + n) cap * ie.bytes > 2 ^ 48) := by
      have := nextcap_le hcap
      have h5 : Builtin.nextslicecap (sl + n) cap ≤ 2001000 := by omega
      have h6 : ie.bytes ≤ 1000000 := by omega
      have := Nat.mul_le_mul h5 h6
      omega
    have hf : (Question.appendCap (sl + n) cap e).forced = false := rfl
    generalize hu : rx.u = u at hni
    cases u with
    | int k => exact absurd rfl (hni k)
    | _ =>
      simp only [Builtin.append_, List.getElem?_toArray, List.getElem?_cons_zero, List.getElem?_cons_succ, Sem.run_bind, run_under hr, hty, Result.andThen_ok, run_size hre, run_under hrx, hu, Sem.run_pure, hlen, h1, if_false,
        Bool.false_eq_true, hinfo, h2, h3, false_and, run_choose, hf, run_askRoom, hold, hnew, run_zero hre hz, newRow, run_newObj, Bool.not_false, if_true]

/-- append where there is room -/
theorem append_fits {st xt e ty : TypeId} {r re rx : TR} {base : Option Addr} {sl cap n : Nat} {x : Value} {new : List Value} {w2 : World}
    (hr : (Env.of P eqs clone).ty.get st = some r) (hty : r.u = .slice e) (hre : (Env.of P eqs clone).ty.get e = some re)
    (hrx : (Env.of P eqs clone).ty.get xt = some rx) (hni : ∀ k, rx.u ≠ .int k) (hcap : sl + n ≤ cap)
    (hlen : (Builtin.lenOf x).run P w = .ok n w)
    (hnew : (Builtin.firstCells re.size n x).run P w = .ok ⟨new⟩ w)
    (hst : (do if let some a := base then storeCells (a.add (sl * re.size)) new : Sem Unit).run P w = .ok () w2) :
    (Builtin.append_ #[st, xt] ty #[.slice base sl cap, x]).run P w = .ok (.slice base (sl + n) cap) w2 := by
  generalize hu : rx.u = u at hni
  cases u with
  | int k => exact absurd rfl (hni k)
  | _ =>
    simp only [Builtin.append_, List.getElem?_toArray, List.getElem?_cons_zero, List.getElem?_cons_succ, Sem.run_bind, run_under hr, hty, Result.andThen_ok, run_size hre, run_under hrx, hu, Sem.run_pure, hlen, hcap, if_true,
      Bool.false_eq_true, if_false, Bool.not_false, hnew]
    cases base with
    | none => simp only [Sem.run_pure] at hst ⊢; injection hst with _ h2; subst h2; rfl
    | some ad => simp only at hst ⊢; rw [Sem.run_bind, hst]; rfl

theorem post_drawn (s : Sim ng n0 ρ h w) {ρ' : Rho} {h' : H} {d : Nat} (hs : Step ρ h { w with drawn := d } ρ' h' w') : Step ρ h w ρ' h' w' :=
  (Step.drawn ρ h w d).trans hs

theorem isIntT_false {xt : TypeId} (h : isIntT (Env.of P eqs clone) xt = false) : ∃ rx, (Env.of P eqs clone).ty.get xt = some rx ∧ ∀ k, rx.u ≠ .int k := by
  unfold isIntT at h
  split at h
  · rename_i r hr
    refine ⟨r, hr, fun k hk => ?_⟩
    rw [hk] at h; cases h
  · cases h

theorem lenV_sound {x x' : Value} {n : Nat} (hx : VR ρ x x') (h : lenV x = some n) (w : World) : (Builtin.lenOf x').run P w = .ok n w := by
  unfold lenV at h
  split at h
  · injection h with h; subst h
    cases hx <;> rfl
  · injection h with h; subst h
    cases hx
    simp [Builtin.lenOf, size_strL]
  · cases h

/-- cells of a row are written, and nobody tells of them any more -/
theorem store_pois (s : Sim ng n0 ρ h w) {b B base o n c skip : Nat} {t : T Value} {l : List Nat} {vs' : List Value} {bl : T Blk} (hp : Pois o n (fun b => b ∈ l ∧ b ≠ skip) h.bl bl) (hb : h.bl.get b = some (.cells t c)) (hr : ρ b = some (B, base)) (hl : h.mem.get c = some l)
    (hn : vs'.length = n) (hsk : ρ skip = none) (hcell : ∀ j, j < vs'.length → ∃ v', w.cell? ⟨B, base + o + j, none⟩ = some v' ∧ w.frozen? ⟨B, base + o + j, none⟩ = false) :
    Sim ng n0 ρ ⟨h.next, bl, h.mem⟩ (w.setCells B (base + o) vs') := by
  subst hn
  obtain ⟨B', base', h1, h2, h3, h4⟩ := s.cells b t c hb
  rw [hr] at h1; injection h1 with h1; injection h1 with e1 e2; subst e1; subst e2
  have himg : Img ρ h B := ⟨b, base, _, hb, rfl, hr⟩
  have hlive : ∀ {b' x}, h.bl.get b' = some x → b' ≠ skip := fun hb' e => by subst e; obtain ⟨p, hp⟩ := s.live hb'; rw [hsk] at hp; cases hp
  have hback : ∀ {b' x'}, bl.get b' = some x' → (∀ t c, x' ≠ .cells t c) → h.bl.get b' = some x' := by
    intro b' x' hb' hn'
    obtain ⟨y, hy, g, _⟩ := hp b' x' hb'
    rw [g hn']; exact hy
  have hcs : ∀ {b' t' c'}, bl.get b' = some (.cells t' c') → ∃ t0, h.bl.get b' = some (.cells t0 c') ∧ ∀ j v, t'.get j = some v → t0.get j = some v ∧ (b' ∈ l → ¬ (o ≤ j ∧ j < o + vs'.length)) := by
    intro b' t' c' hb'
    obtain ⟨y, hy, _, g⟩ := hp b' _ hb'
    obtain ⟨t0, e, k⟩ := g t' c' rfl
    subst e
    exact ⟨t0, hy, fun j v hv => ⟨(k j v hv).1, fun hm => (k j v hv).2 ⟨hm, hlive hy⟩⟩⟩
  refine ⟨s.born, fun i B' base' hi => by rw [setCells_size]; exact s.inh i B' base' hi, ?_, s.glob, s.lowOk.step (by rw [setCells_size]; exact Nat.le_refl _) (fun k hk => setCells_heap B vs' _ w k (by omega)), ?_, ?_, ?_, ?_, ?_, ?_, ?_, ?_, ?_⟩
  · intro b' t' c' B' base' hb' hr' k hk
    obtain ⟨t0, hy, _⟩ := hcs hb'
    obtain ⟨v, k1, k2⟩ := s.rows _ _ _ _ _ hy hr' k hk
    rw [World.frozen?_setCells]
    by_cases eB : B' = B
    · subst eB
      by_cases hin : base + o ≤ k ∧ k < base + o + vs'.length
      · have hlt : k - (base + o) < vs'.length := by omega
        have := World.cell?_setCells_in B' vs' (base + o) w (fun j hj => by obtain ⟨v', h5, _⟩ := hcell j hj; simp [h5]) (k - (base + o)) hlt
        rw [show base + o + (k - (base + o)) = k by omega] at this
        exact ⟨_, this, k2⟩
      · exact ⟨v, by rw [World.cell?_setCells_out B' vs' (base + o) w _ (fun _ _ => by simp only; omega)]; exact k1, k2⟩
    · exact ⟨v, by rw [cell_of (setCells_heap B vs' (base + o) w B' eB)]; exact k1, k2⟩
  · intro b' t' c' hb'
    obtain ⟨t0, hy, h8⟩ := hcs hb'
    obtain ⟨B2, base2, k1, k2, k3, k4⟩ := s.cells b' t0 c' hy
    refine ⟨B2, base2, k1, k2, by rw [setCells_size]; exact k3, fun j v hv' => ?_⟩
    obtain ⟨h9, h10⟩ := h8 j v hv'
    obtain ⟨v', k5, k6, k7⟩ := k4 j v h9
    rw [World.frozen?_setCells]
    refine ⟨v', ?_, k6, k7⟩
    by_cases eB : B2 = B
    · subst eB
      obtain ⟨e1, e2⟩ := s.cls _ _ _ _ _ _ _ _ _ hb hy hr k1
      subst e1; subst e2
      have := h10 (s.mem b' t0 c l hy hl)
      rw [World.cell?_setCells_out B2 vs' (base + o) w _ (fun _ _ => by simp only; omega)]
      exact k5
    · rw [cell_of (setCells_heap B vs' (base + o) w B2 eB)]; exact k5
  · intro b' t' hb'
    obtain ⟨B2, k1, k2, k4⟩ := s.ro b' t' (hback hb' (by simp))
    refine ⟨B2, k1, k2, fun j v hv' => ?_⟩
    obtain ⟨v', k5, k7⟩ := k4 j v hv'
    exact ⟨v', by rw [cell_of (setCells_heap B vs' (base + o) w B2 (by omega))]; exact k5, k7⟩
  · intro b' es k hb'
    obtain ⟨B2, es', k1, k2, k3, k4⟩ := s.maps b' es k (hback hb' (by simp))
    exact ⟨B2, es', k1, k2, setCells_obj B (by simp) vs' _ w B2 k3, k4⟩
  · intro b' m sn seen st hb'
    obtain ⟨B2, k1, k2, k3⟩ := s.iters b' m sn seen st (hback hb' (by simp))
    refine ⟨B2, k1, k2, ?_⟩
    rcases k3 with ⟨k3, k4⟩ | ⟨k, M, k3, k4, k5⟩
    · exact Or.inl ⟨k3, setCells_obj B (by simp) vs' _ w B2 k4⟩
    · exact Or.inr ⟨k, M, k3, k4, setCells_obj B (by simp) vs' _ w B2 k5⟩
  · intro b' x hb' hx
    obtain ⟨B2, o2, k1, k2, k3, k4⟩ := s.objs b' x (hback hb' (fun t c e => by subst e; cases hx)) hx
    exact ⟨B2, o2, k1, k2, setCells_obj B k4.nocells vs' _ w B2 k3, k4⟩
  · intro b1 t1 c1 b2 t2 c2 B' d1 d2 hb1 hb2 q1 q2
    obtain ⟨t1', hy1, _⟩ := hcs hb1
    obtain ⟨t2', hy2, _⟩ := hcs hb2
    exact s.cls _ _ _ _ _ _ _ _ _ hy1 hy2 q1 q2
  · intro b1 t1 c1 l' hb1 hl'
    obtain ⟨t1', hy1, _⟩ := hcs hb1
    exact s.mem _ _ _ _ hy1 hl'
  · intro b1 t1 c1 hb1
    obtain ⟨t1', hy1, _⟩ := hcs hb1
    exact s.clsb _ _ _ hy1
  · intro b1 x1 b2 x2 B' d1 d2 hb1 hb2 o1 o2 q1 q2
    exact s.inj _ _ _ _ _ _ _ (hback hb1 (fun t c e => by subst e; cases o1)) (hback hb2 (fun t c e => by subst e; cases o2)) o1 o2 q1 q2

theorem store_poison (s : Sim ng n0 ρ h w) {b B base o n c skip : Nat} {t : T Value} {l : List Nat} {vs' : List Value} (hb : h.bl.get b = some (.cells t c)) (hr : ρ b = some (B, base)) (hl : h.mem.get c = some l)
    (hn : vs'.length = n) (hsk : ρ skip = none) (hcell : ∀ j, j < vs'.length → ∃ v', w.cell? ⟨B, base + o + j, none⟩ = some v' ∧ w.frozen? ⟨B, base + o + j, none⟩ = false) :
    Sim ng n0 ρ ⟨h.next, poison o n skip l h.bl, h.mem⟩ (w.setCells B (base + o) vs') := store_pois s (poison_get o n skip l h.bl) hb hr hl hn hsk hcell
theorem eraseL_cons (b : Nat) (l : List Nat) (bl : T Blk) : eraseL (b :: l) bl = eraseL l (bl.del b) := rfl
theorem erase_get : ∀ (l : List Nat) (bl : T Blk) (b : Nat) (x : Blk), (eraseL l bl).get b = some x → bl.get b = some x ∧ b ∉ l
  | [], bl, b, x, h => ⟨h, by simp⟩
  | a :: l, bl, b, x, h => by
    rw [eraseL_cons] at h
    obtain ⟨h1, h2⟩ := erase_get l _ b x h
    obtain ⟨h3, h4⟩ := T.get_del h1
    exact ⟨h4, by simp [h3, h2]⟩
theorem erase_pois (o n skip : Nat) (l : List Nat) (bl : T Blk) : Pois o n (fun b => b ∈ l ∧ b ≠ skip) bl (eraseL l bl) := by
  intro b x hx
  obtain ⟨h1, h2⟩ := erase_get l bl b x hx
  exact ⟨x, h1, fun _ => rfl, fun t c he => ⟨t, he, fun j v hv => ⟨hv, fun h => absurd h.1 h2⟩⟩⟩

theorem step_row {o n skip B base lim cl : Nat} {l l2 : List Nat} {vs : List Value} {bl : T Blk} (hp : Pois o n (fun b => b ∈ l ∧ b ≠ skip) h.bl bl) (s : Sim ng n0 ρ h w) (hl : ∀ i base', ρ i = some (B, base') → lim = ρ.lim B)
    (hos : w'.os = w.os) (ht : w'.tape = w.tape) (hout : w'.output = w.output) (hsz : w.heap.size ≤ w'.heap.size) (hk : ∀ k, k < w.heap.size → k ≠ B → w'.heap[k]? = w.heap[k]?) (hB : w.heap.size ≤ B ∨ Img ρ h B) :
    Step ρ h w (upd ρ h.next B base lim) ⟨Nat.succ h.next, bl.set h.next (.cells (T.setL vs 0 .leaf) cl), h.mem.set cl (h.next :: l2)⟩ w' := by
  have hid := s.next_none
  refine ⟨upd_le hid B base lim hl, ?_, Nat.le_succ _, hos, ht, hout, hsz, ?_, ?_⟩
  · intro i p hi
    by_cases e : i = h.next
    · exact Or.inr (by omega)
    · rw [upd_ne e] at hi; exact Or.inl hi
  · intro k hlt hn
    refine hk k hlt fun e => ?_
    subst e
    rcases hB with h1 | h1
    · omega
    · exact hn h1
  · rintro B' ⟨b', d, y, hb', hw, q⟩
    rcases T.get_set hb' with ⟨e, _⟩ | ⟨hb1, hb'⟩
    · rw [e, upd_same] at q; injection q with q; injection q with e1 e2; subst e1
      exact hB
    · rw [upd_ne hb1] at q
      exact Or.inr (Img.sub hp ⟨b', d, y, hb', hw, q⟩)

theorem zeroCells_eq (z : Array Value) : ∀ n, (Builtin.zeroCells z n).toList = (List.replicate n z.toList).flatten
  | 0 => by simp [Builtin.zeroCells]
  | n + 1 => by
    have ih := zeroCells_eq z n
    unfold Builtin.zeroCells at ih ⊢
    simp only [Array.toList_map, Array.toList_range] at ih ⊢
    rw [Nat.add_mul, Nat.one_mul, List.range_add, List.map_append, ih, List.replicate_succ', List.flatten_append]
    congr 1
    simp only [List.map_map, List.flatten_cons, List.flatten_nil, List.append_nil]
    refine List.ext_getElem (by simp) fun i h1 h2 => ?_
    have hi : i < z.size := by simpa using h2
    simp only [List.getElem_map, List.getElem_range, Function.comp]
    rw [Nat.mul_comm n, Nat.mul_add_mod, Nat.mod_eq_of_lt hi, getElem!_pos z i hi]
    simp

theorem VRs.flatten_replicate {l m : List Value} (h : VRs ρ l m) : ∀ n : Nat, VRs ρ (List.replicate n l).flatten (List.replicate n m).flatten
  | 0 => .nil
  | n + 1 => by rw [List.replicate_succ, List.replicate_succ, List.flatten_cons, List.flatten_cons]; exact h.append (VRs.flatten_replicate h n)

/-- append of so many zeros to nothing -/
theorem append_zeros {st xt e ty : TypeId} {r re rx : TR} {z : Value} {kx k : IntKind} {n : Nat}
    (hr : (Env.of P eqs clone).ty.get st = some r) (hty : r.u = .slice e) (hre : (Env.of P eqs clone).ty.get e = some re) (hz : re.zero = some z)
    (hrx : (Env.of P eqs clone).ty.get xt = some rx) (hu : rx.u = .int kx) (hb : re.bytes < 1000000) (h0 : 0 < n) (hneed : n < 1000000) (hs : re.size ≠ 0) :
    ∃ newCap, n ≤ newCap ∧ (Builtin.append_ #[st, xt] ty #[.slice none 0 0, .int k (.ofNat n)]).run P w =
      .ok (.slice (some ⟨w.heap.size, 0, none⟩) n newCap) { w with drawn := w.drawn + 1, heap := w.heap.push (.cells (Builtin.zeroCells z.cells n ++ Builtin.zeroCells z.cells (newCap - n)) e) } := by
  obtain ⟨ie, hi1, _, hi2, hi3, hi4⟩ := ty_spec hre
  have hinfo : ∀ w, (typeInfo e).run P w = .ok ie w := fun w => by simp [typeInfo, hi1]
  refine ⟨(Question.appendCap n 0 e).cut (w.tape w.drawn (.appendCap n 0 e)), ?_, ?_⟩
  · simp [Question.cut]
  · have h1 : ¬ (n ≤ 0) := by omega
    have h2 : ¬ ((n : Nat) : Int) > IntKind.i64.max := by
      have : IntKind.i64.max = 9223372036854775807 := rfl
      omega
    have h3 : ¬ (Builtin.nextslicecap n 0 * ie.bytes > 2 ^ 48) := by
      have := nextcap_le (need := n) (cap := 0) (by omega)
      have h5 : Builtin.nextslicecap n 0 ≤ 2001000 := by omega
      have h6 : ie.bytes ≤ 1000000 := by omega
      have := Nat.mul_le_mul h5 h6
      omega
    have hw : IntKind.i64.wrap (Int.ofNat n) = (n : Int) := by rw [IntKind.wrap_i64]; simp only [Int.ofNat_eq_natCast]; omega
    have h4 : ¬ ((n : Int) < 0) := by omega
    have h5 : ¬ ((n : Int) * (ie.bytes : Int) > 2 ^ 48) := by
      have h6 : ie.bytes ≤ 1000000 := by omega
      have := Nat.mul_le_mul (show n ≤ 1000000 by omega) h6
      have h7 : ((n * ie.bytes : Nat) : Int) ≤ ((1000000 * 1000000 : Nat) : Int) := Int.ofNat_le.2 this
      rw [Int.natCast_mul] at h7
      omega
    have hns : ¬ (n * re.size = 0) := Nat.mul_ne_zero (by omega) hs
    have hf : (Question.appendCap n 0 e).forced = false := rfl
    have hold : ∀ w, (Builtin.firstCells re.size 0 (.slice none 0 0)).run P w = .ok #[] w := fun w => by simp [Builtin.firstCells]
    simp only [Builtin.append_, List.getElem?_toArray, List.getElem?_cons_zero, List.getElem?_cons_succ, Sem.run_bind, run_under hr, hty, Result.andThen_ok, run_size hre, run_under hrx, hu, Sem.run_pure, asInt, asIntOf, hw, h4, h5, h1, if_false,
      Bool.false_eq_true, hinfo, h2, h3, false_and, run_choose, hf, run_askRoom, hold, hns, Int.toNat_natCast, run_zero hre hz, newRow, run_newObj, Bool.not_true, Bool.not_false, if_true, Nat.zero_add, Array.empty_append, Array.append_empty, reduceIte, Nat.zero_mul]

theorem appendZ_sound (s : Sim ng n0 ρ h w) {st xt ty : TypeId} {sv x sv' x' v : Value} {h' : H} (hs : VR ρ sv sv') (hx : VR ρ x x')
    (hl : appendZ (Env.of P eqs clone) h st xt sv x = some (v, h')) :
    ∃ v' w', (Builtin.append_ #[st, xt] ty #[sv', x']).run P w = .ok v' w' ∧ Post ng n0 ρ h w h' v v' w' := by
  unfold appendZ at hl
  rw [ob_some] at hl
  obtain ⟨r, hr, hl⟩ := hl
  rw [ob_some] at hl
  obtain ⟨rx, hrx, hl⟩ := hl
  split at hl
  · rename_i kx hu
    split at hl
    · rename_i e base sl cap hty
      split at hl
      · rename_i k n
        rw [ob_some] at hl
        obtain ⟨re, hre, hl⟩ := hl
        rw [ob_some] at hl
        obtain ⟨z, hz, hl⟩ := hl
        rw [bi_none_some, bi_none_some, bi_none_some, bi_none_some, bi_some_none, bi_some_none] at hl
        obtain ⟨h0, hby, hkz, hneed, hzs, hf, hl⟩ := hl
        have h0 : re.size ≠ 0 := fun e => by rw [e] at h0; exact absurd h0 (by decide)
        have hkz : re.size < capK := by rw [← Bool.not_eq_true, Nat.ble_eq] at hkz; omega
        have hby : re.bytes < 1000000 := by rw [← Bool.not_eq_true, Nat.ble_eq] at hby; omega
        have hneed : n < 999999 := by rw [← Bool.not_eq_true, Nat.ble_eq] at hneed; omega
        have hzs := Nat.eq_of_beq_eq_true hzs
        injection hl with hl; injection hl with e1 e2; subst e1; subst e2
        obtain ⟨rfl, rfl, _, _⟩ := slice_nil hs
        cases hx with
        | int k m =>
        have hzl : z.cells.toList = vcells z := by
          have := (VR.vcells (ρ := ρ) (v := z) (w := z))
          cases z <;> rfl
        have hzc : z.cells.size = re.size := by rw [← hzs, ← hzl, Array.length_toList]
        obtain ⟨newCap, h1, h2⟩ := append_zeros (P := P) (w := w) (ty := ty) (k := k) (n := n + 1) hr hty hre hz hrx hu hby (by omega) (by omega) h0
        refine ⟨_, _, h2, ?_⟩
        have hv : VRs ρ (List.replicate (n + 1) (vcells z)).flatten (Builtin.zeroCells z.cells (n + 1)).toList := by
          rw [zeroCells_eq]
          exact (flat_VR (ρ := ρ) hf).vcells.flatten_replicate (n + 1)
        have hcs : ∀ (i : Nat) (v : Value), (Builtin.zeroCells z.cells (n + 1)).toList[i]? = some v → (Builtin.zeroCells z.cells (n + 1) ++ Builtin.zeroCells z.cells (newCap - (n + 1)))[i]? = some v := by
          intro i v hv
          have hlt := (List.getElem?_eq_some_iff.1 hv).1
          rw [Array.getElem?_append_left (by simpa using hlt)]
          simpa using hv
        have hsz : (Builtin.zeroCells z.cells (n + 1) ++ Builtin.zeroCells z.cells (newCap - (n + 1))).size = newCap * re.size := by
          simp only [Array.size_append, zeroCells_size, hzc]
          rw [← Nat.add_mul]
          congr 1; omega
        obtain ⟨k1, k2⟩ := new_cells (s.drawn (w.drawn + 1)) hv _ hcs e
        refine ⟨_, k1, post_drawn s k2, ?_⟩
        have := VR.slice (ρ := upd ρ h.next w.heap.size 0 (Builtin.zeroCells z.cells (n + 1) ++ Builtin.zeroCells z.cells (newCap - (n + 1))).size) h.next 0 (n + 1) (capU + re.size) w.heap.size 0 newCap (upd_same _ _ _ _ _)
          (Or.inl ⟨re.size, 0, hkz, rfl, Nat.zero_le _, by rw [upd_lim, hsz]; simp⟩) h1
        exact this
      · cases hl
    · cases hl
  · cases hl

theorem appendE_sound (s : Sim ng n0 ρ h w) {st xt ty : TypeId} {sv x sv' x' v : Value} {h' : H} (hs : VR ρ sv sv') (hx : VR ρ x x')
    (hl : appendE (Env.of P eqs clone) h st xt sv x = some (v, h')) :
    ∃ v' w', (Builtin.append_ #[st, xt] ty #[sv', x']).run P w = .ok v' w' ∧ Post ng n0 ρ h w h' v v' w' := by
  unfold appendE at hl
  rw [bi_eq] at hl
  split at hl
  · exact appendZ_sound s hs hx hl
  rename_i hint
  rw [ob_some] at hl
  obtain ⟨r, hr, hl⟩ := hl
  have hint := Bool.eq_false_iff.2 hint
  obtain ⟨rx, hrx, hni⟩ := isIntT_false hint
  split at hl
  · rename_i e base sl cap hty
    rw [ob_some] at hl
    obtain ⟨re, hre, hl⟩ := hl
    rw [ob_some] at hl
    obtain ⟨z, hz, hl⟩ := hl
    rw [bi_some_none, bi_none_some, ob_some] at hl
    obtain ⟨hzs, hby, n, hn, hl⟩ := hl
    rw [ob_some] at hl
    obtain ⟨new, hnew, hl⟩ := hl
    rw [bi_some_none, bi_none_some] at hl
    obtain ⟨hnl, hkz, hl⟩ := hl
    have hkz : re.size < capK := by rw [← Bool.not_eq_true, Nat.ble_eq] at hkz; omega
    have hby : re.bytes < 1000000 := by rw [← Bool.not_eq_true, Nat.ble_eq] at hby; omega
    have hnl := Nat.eq_of_beq_eq_true hnl
    have hzs := Nat.eq_of_beq_eq_true hzs
    have hlen := fun w => lenV_sound (P := P) hx hn w
    obtain ⟨new', hnewd, hn2⟩ := firstE_sound (P := P) s hx hn (Nat.le_refl _) hnew
    have hn1 : (Builtin.firstCells re.size n x').run P w = .ok ⟨new'⟩ w := hnewd w.drawn
    split at hl
    · -- nothing is appended
      injection hl with hl; injection hl with e1 e2; subst e1; subst e2
      simp at hnl
      subst hnl
      cases hn2
      have hfit : ∃ b' c', sv' = .slice b' sl c' ∧ sl ≤ c' := by
        cases hs with
        | nils c hc => exact ⟨_, _, rfl, Nat.le_refl _⟩
        | slice b o n c B base c' hb hc hl => exact ⟨_, _, rfl, hl⟩
        | slice0 b o a' c hc => exact ⟨_, _, rfl, Nat.le_refl _⟩
      obtain ⟨b', c', rfl, hle⟩ := hfit
      have := append_fits (ty := ty) (base := b') hr hty hre hrx hni (n := 0) (cap := c') (sl := sl) (by omega) (hlen w) hn1 (w2 := w) (by cases b' <;> rfl)
      exact ⟨_, _, this, ρ, s, Step.refl _ _ _, hs⟩
    · rename_i n' _
      rw [bi_none_some] at hl
      obtain ⟨hneed, hl⟩ := hl
      have hneed : sl + (n' + 1) < 1000000 := by rw [← Bool.not_eq_true, Nat.ble_eq] at hneed; omega
      have hzc : z.cells.size = re.size := by
        have : z.cells.toList = vcells z := by
          have := (VR.vcells (ρ := ρ) (v := z) (w := z))
          cases z <;> rfl
        rw [← hzs, ← this, Array.length_toList]
      have hnl' := hn2.length
      -- a new row, of its own
      have fresh : ∀ {base' : Option Addr} {cap' : Nat} {old old' : List Value}, sv' = .slice base' sl cap' → cap' < sl + (n' + 1) → old.length = sl * re.size → VRs ρ old old' →
          (∀ d, (Builtin.firstCells re.size sl (.slice base' sl cap')).run P { w with drawn := d } = .ok ⟨old'⟩ { w with drawn := d }) →
          ∃ v' w', (Builtin.append_ #[st, xt] ty #[sv', x']).run P w = .ok v' w' ∧ Post ng n0 ρ h w (newCells h (old ++ new)) (.slice (some ⟨h.next, 0, none⟩) (sl + (n' + 1)) (capU + re.size)) v' w' := by
        intro base' cap' old old' he hcap hol hov hold
        subst he
        obtain ⟨newCap, h1, h2⟩ := append_grow (ty := ty) hr hty hre hz hrx hni hby hneed hcap (hlen w) hold hnewd
        refine ⟨_, _, h2, ?_⟩
        have hcs : ∀ (i : Nat) (v : Value), (old' ++ new')[i]? = some v → ((⟨old'⟩ : Array Value) ++ (⟨new'⟩ : Array Value) ++ Builtin.zeroCells z.cells (newCap - (sl + (n' + 1))))[i]? = some v := by
          intro i v hv
          have hlt := (List.getElem?_eq_some_iff.1 hv).1
          have : ((⟨old'⟩ : Array Value) ++ (⟨new'⟩ : Array Value)) = ⟨old' ++ new'⟩ := by simp
          rw [this, Array.getElem?_append_left (by simpa using hlt)]
          simpa using hv
        have hsz : ((⟨old'⟩ : Array Value) ++ (⟨new'⟩ : Array Value) ++ Builtin.zeroCells z.cells (newCap - (sl + (n' + 1)))).size = newCap * re.size := by
          simp only [Array.size_append, zeroCells_size, hzc, List.size_toArray]
          rw [← hov.length, ← hnl', hol, hnl, ← Nat.add_mul, ← Nat.add_mul]
          congr 1; omega
        obtain ⟨k1, k2⟩ := new_cells (s.drawn (w.drawn + 1)) (hov.append hn2) _ hcs e
        refine ⟨_, k1, post_drawn s k2, ?_⟩
        have := VR.slice (ρ := upd ρ h.next w.heap.size 0 ((⟨old'⟩ : Array Value) ++ (⟨new'⟩ : Array Value) ++ Builtin.zeroCells z.cells (newCap - (sl + (n' + 1)))).size) h.next 0 (sl + (n' + 1)) (capU + re.size) w.heap.size 0 newCap (upd_same _ _ _ _ _)
          (Or.inl ⟨re.size, 0, hkz, rfl, Nat.zero_le _, by rw [upd_lim, hsz]; simp⟩) h1
        exact this
      split at hl
      · injection hl with hl; injection hl with e1 e2; subst e1; subst e2
        obtain ⟨rfl, rfl, _, _⟩ := slice_nil hs
        exact fresh rfl (by omega) (by simp) .nil (fun d => by simp [Builtin.firstCells])
      · rename_i b o sp
        rw [ob_some] at hl
        obtain ⟨c0, hc0, hl⟩ := hl
        rw [ob_some] at hl
        obtain ⟨old, hold, hl⟩ := hl
        have hsp : sp = none := by cases hs <;> rfl
        subst hsp
        have hfo : firstE h re.size sl (.slice (some ⟨b, o, none⟩) sl cap) = some old := by
          show bi (Nat.beq sl 0) (some []) (ob (cellsAt h b) fun c => getN c (sl * re.size) o) = some old
          rw [hc0, bi_eq]
          split
          · rename_i hz
            have hz : sl = 0 := Nat.eq_of_beq_eq_true hz
            subst hz
            rw [Nat.zero_mul] at hold
            exact hold
          · exact hold
        obtain ⟨old', ho1, ho2⟩ := firstE_sound (P := P) s hs rfl (Nat.le_refl _) hfo
        have hol := (getN_get hold).1
        rw [bi_eq] at hl
        split at hl
        · -- the capacity is not known
          rename_i hcu
          have hcu : capU ≤ cap := by simpa using hcu
          rw [bi_some_none] at hl
          obtain ⟨hce, hl⟩ := hl
          rw [bi_eq] at hl
          split at hl
          · -- there is room, as one knows
            rename_i hfit0
            have hfit0 : sl + (n' + 1) ≤ capM cap := by simpa using hfit0
            rw [om_some] at hl
            obtain ⟨h2, hst, hl⟩ := hl
            injection hl with e1 e2; subst e1; subst e2
            cases hs with
            | slice b o n3 c3 B2 base2 c' hb2 hc hn3 =>
              rcases hc with ⟨sz, m, hz, hc1, hm, hc2⟩ | ⟨_, hc2⟩
              · have hsz := capOk_eq hce hz hc1
                subst hsz
                have hcm : capM cap = m := by rw [hc1]; exact capM_of hz
                have hfit : sl + (n' + 1) ≤ c' := by omega
                obtain ⟨k1, k2, k3⟩ := storeRow_sound (P := P) s hb2 hn2 hst
                have := append_fits (ty := ty) (base := some ⟨B2, base2 + o, none⟩) hr hty hre hrx hni hfit (hlen w) hn1 (w2 := w.setCells B2 (base2 + (o + sl * re.size)) new') (by simp only [addr_add, Nat.add_assoc]; exact k1)
                obtain ⟨m', h5, h6⟩ := capC_of (size := re.size) (len := sl + (n' + 1)) hz (show capM cap ≤ c' by omega)
                exact ⟨_, _, this, _, k2, k3, VR.slice _ _ _ _ _ _ _ hb2 (Or.inl ⟨re.size, m', hz, h5, h6, hc2⟩) hfit⟩
              · omega
            | slice0 b o a' c3 hc =>
              rcases hc with hc | hc
              · rw [capM_zero hc] at hfit0; omega
              · have := capU_pos; omega
          rename_i hfit0
          rw [bi_some_none, ob_some] at hl
          obtain ⟨hsc, y, hy, hl⟩ := hl
          split at hl
          · rename_i t c
            rw [ob_some] at hl
            obtain ⟨l, hml, hl⟩ := hl
            split at hl
            · injection hl with hl; injection hl with e1 e2; subst e1; subst e2
              have hid := s.next_none
              have hnlen : new'.length = new.length := hn2.length.symm
              obtain ⟨B, base, hrb, hlow, hBlt, hcell⟩ := s.cells b t c hy
              have hmem : ∀ b' t', (poison (sl * re.size) new.length h.next l h.bl).get b' = some (.cells t' c) → b' ∈ l := by
                intro b' t' hb'
                obtain ⟨z', hz', _, g⟩ := poison_get (sl * re.size) new.length h.next l h.bl b' _ hb'
                obtain ⟨t0, e, _⟩ := g t' c rfl
                subst e
                exact s.mem _ _ _ _ hz' hml
              have hclb : c = h.next ∨ ∃ p, ρ c = some p := Or.inr (s.clsb _ _ _ hy)
              -- a new row
              have grown : ∀ {base' : Option Addr} {cap' : Nat}, sv' = .slice base' sl cap' → cap' < sl + (n' + 1) → (∀ d, (Builtin.firstCells re.size sl (.slice base' sl cap')).run P { w with drawn := d } = .ok ⟨old'⟩ { w with drawn := d }) →
                  ∃ v' w', (Builtin.append_ #[st, xt] ty #[sv', x']).run P w = .ok v' w' ∧ Post ng n0 ρ h w ⟨h.next.succ, (poison (sl * re.size) new.length h.next l h.bl).set h.next (.cells (T.setL (old ++ new) 0 .leaf) c), h.mem.set c (h.next :: l)⟩ (.slice (some ⟨h.next, 0, none⟩) (sl + (n' + 1)) (capU + re.size)) v' w' := by
                intro base' cap' he hcap hold'
                subst he
                obtain ⟨newCap, h1, h2⟩ := append_grow (ty := ty) hr hty hre hz hrx hni hby hneed hcap (hlen w) hold' hnewd
                refine ⟨_, _, h2, ?_⟩
                have hsz : ((⟨old'⟩ : Array Value) ++ (⟨new'⟩ : Array Value) ++ Builtin.zeroCells z.cells (newCap - (sl + (n' + 1)))).size = newCap * re.size := by
                  simp only [Array.size_append, zeroCells_size, hzc, List.size_toArray]
                  rw [← ho2.length, ← hnl', hol, hnl, ← Nat.add_mul, ← Nat.add_mul]
                  congr 1; omega
                have hcs : ∀ (i : Nat) (v : Value), (old' ++ new')[i]? = some v → ((⟨old'⟩ : Array Value) ++ (⟨new'⟩ : Array Value) ++ Builtin.zeroCells z.cells (newCap - (sl + (n' + 1))))[i]? = some v := by
                  intro i v hv
                  have hlt := (List.getElem?_eq_some_iff.1 hv).1
                  have : ((⟨old'⟩ : Array Value) ++ (⟨new'⟩ : Array Value)) = ⟨old' ++ new'⟩ := by simp
                  rw [this, Array.getElem?_append_left (by simpa using hlt)]
                  simpa using hv
                generalize ((⟨old'⟩ : Array Value) ++ (⟨new'⟩ : Array Value) ++ Builtin.zeroCells z.cells (newCap - (sl + (n' + 1)))) = cs at *
                have s1 := ((s.drawn (w.drawn + 1)).pushed (.cells cs e)).sub (poison_get (sl * re.size) new.length h.next l h.bl)
                have hnew := heap_push_new { w with drawn := w.drawn + 1 } (.cells cs e)
                have hni' : ∀ i base, ρ i = some (w.heap.size, base) → False := fun i base hi => absurd (s.inh _ _ _ hi) (Nat.lt_irrefl _)
                have s2 := s1.add_row (B := w.heap.size) (base := 0) (lim := cs.size) (cl := c) (l := l) (vs := old ++ new) (fun i b hi => (hni' i b hi).elim) s.low (lt_of_some hnew)
                  (fun k hk => ⟨cs[k], by simp [World.cell?, hk], by simp [World.frozen?]⟩)
                  (fun i v hv => by
                    obtain ⟨v', h3, h4⟩ := (ho2.append hn2).get hv
                    exact ⟨v', by simp [World.cell?, hcs _ _ h3], by simp [World.frozen?], h4⟩)
                  (fun b t c base' hb' hr' => (hni' _ _ hr').elim) hmem hclb
                refine ⟨_, s2, step_row (poison_get (sl * re.size) new.length h.next l h.bl) s (fun i b hi => (hni' i b hi).elim) rfl rfl rfl (by simp) (fun k hk _ => heap_push { w with drawn := w.drawn + 1 } _ k hk) (Or.inl (Nat.le_refl _)), ?_⟩
                exact VR.slice _ 0 _ _ _ 0 newCap (upd_same _ _ _ _ _) (Or.inl ⟨re.size, 0, hkz, rfl, Nat.zero_le _, by rw [upd_lim, hsz]; simp⟩) h1
              cases hs with
              | slice b o n3 c3 B2 base2 c' hb2 hc hn3 =>
                rw [hrb] at hb2; injection hb2 with hb2; injection hb2 with e1 e2; subst e1; subst e2
                rcases hc with ⟨sz, m, hz, hc1, hm, hc2⟩ | ⟨_, hc2⟩
                · have hsz := capOk_eq hce hz hc1
                  subst hsz
                  by_cases hfit : sl + (n' + 1) ≤ c'
                  · -- in its place
                    have hroom : base + (sl + (n' + 1)) * re.size ≤ ρ.lim B := by
                      have := Nat.mul_le_mul_right re.size hfit
                      omega
                    have hcell2 : ∀ j, j < new'.length → ∃ v', w.cell? ⟨B, base + sl * re.size + j, none⟩ = some v' ∧ w.frozen? ⟨B, base + sl * re.size + j, none⟩ = false := by
                      intro j hj
                      refine s.rows b t c B base hy hrb _ ?_
                      have : (sl + (n' + 1)) * re.size = sl * re.size + (n' + 1) * re.size := Nat.add_mul _ _ _
                      have h6 : new.length = (n' + 1) * re.size := hnl
                      omega
                    have hrun := run_storeCells_cells (P := P) B (base + sl * re.size) new' 0 w (fun j hj => by obtain ⟨v', h5, _⟩ := hcell2 j hj; simp [h5]) (fun j hj => by obtain ⟨v', _, h6⟩ := hcell2 j hj; simpa using h6) (scal_one hsc hn2)
                    simp only [Nat.add_zero] at hrun
                    have hfits := append_fits (ty := ty) (base := some ⟨B, base + 0, none⟩) (w2 := w.setCells B (base + sl * re.size) new') hr hty hre hrx hni hfit (hlen w) hn1 (by simp only [Nat.add_zero, addr_add]; exact hrun)
                    refine ⟨_, _, hfits, ?_⟩
                    have s1 := store_poison s hy hrb hml hnlen hid hcell2
                    obtain ⟨r1, r2, r3⟩ := setCells_rest B new' (base + sl * re.size) w
                    have himg : Img ρ h B := ⟨b, base, _, hy, rfl, hrb⟩
                    have s2 := s1.add_row (B := B) (base := base) (lim := ρ.lim B) (cl := c) (l := l) (vs := old ++ new) (fun i b hi => rfl) hlow (by rw [setCells_size]; exact hBlt)
                      (fun k hk => by
                        obtain ⟨v, k1, k2⟩ := s.rows b t c B base hy hrb k hk
                        rw [World.frozen?_setCells]
                        by_cases hin : base + sl * re.size ≤ k ∧ k < base + sl * re.size + new'.length
                        · have hlt : k - (base + sl * re.size) < new'.length := by omega
                          have := World.cell?_setCells_in B new' (base + sl * re.size) w (fun j hj => by obtain ⟨v', h5, _⟩ := hcell2 j hj; simp [h5]) (k - (base + sl * re.size)) hlt
                          rw [show base + sl * re.size + (k - (base + sl * re.size)) = k by omega] at this
                          exact ⟨_, this, k2⟩
                        · exact ⟨v, by rw [World.cell?_setCells_out B new' _ w _ (fun _ _ => by simp only; omega)]; exact k1, k2⟩)
                      (fun i v hv => by
                        rw [World.frozen?_setCells]
                        by_cases hi : i < old.length
                        · rw [List.getElem?_append_left hi] at hv
                          have hg := (getN_get hold).2 i v hv
                          have hc0' : c0 = t := by
                            unfold cellsAt at hc0
                            rw [hy] at hc0; injection hc0 with hc0; exact hc0.symm
                          rw [hc0'] at hg
                          obtain ⟨v', k1, k2, k3⟩ := hcell _ _ hg
                          simp only [Nat.zero_add] at k1 k2
                          exact ⟨v', by rw [World.cell?_setCells_out B new' _ w _ (fun _ _ => by simp only; omega)]; exact k1, k2, k3⟩
                        · rw [List.getElem?_append_right (by omega)] at hv
                          obtain ⟨v', k1, k2⟩ := hn2.get hv
                          have hlt := (List.getElem?_eq_some_iff.1 k1).1
                          have := World.cell?_setCells_in B new' (base + sl * re.size) w (fun j hj => by obtain ⟨v', h5, _⟩ := hcell2 j hj; simp [h5]) _ hlt
                          rw [show base + sl * re.size + (i - old.length) = base + i by omega] at this
                          rw [List.getElem?_eq_getElem hlt] at k1
                          obtain ⟨_, _, hfz⟩ := hcell2 _ hlt
                          rw [show base + sl * re.size + (i - old.length) = base + i by omega] at hfz
                          exact ⟨v', by rw [this]; exact k1, hfz, k2⟩)
                      (fun b' t' c' base' hb' hr' => by
                        obtain ⟨z', hz', _, g⟩ := poison_get (sl * re.size) new.length h.next l h.bl b' _ hb'
                        obtain ⟨t0, e, _⟩ := g t' c' rfl
                        subst e
                        obtain ⟨e1, e2⟩ := s.cls _ _ _ _ _ _ _ _ _ hy hz' hrb hr'
                        exact ⟨e1, e2⟩) hmem hclb
                    refine ⟨_, s2, step_row (poison_get (sl * re.size) new.length h.next l h.bl) s (fun i b hi => rfl) r1 r2 r3 (by rw [setCells_size]; exact Nat.le_refl _) (fun k _ hk => setCells_heap B new' _ w k hk) (Or.inr himg), ?_⟩
                    exact VR.slice _ 0 _ _ _ base c' (upd_same _ _ _ _ _) (Or.inl ⟨re.size, 0, hkz, rfl, Nat.zero_le _, by rw [upd_lim]; exact hc2⟩) hfit
                  · exact grown rfl (by omega) ho1
                · omega
              | slice0 b o a' c3 hc => exact grown rfl (by omega) ho1
            · rename_i O0
              injection hl with hl; injection hl with e1 e2; subst e1; subst e2
              have hid := s.next_none
              have hnlen : new'.length = new.length := hn2.length.symm
              obtain ⟨B, base, hrb, hlow, hBlt, hcell⟩ := s.cells b t c hy
              generalize hO : O0.succ = O at *
              have hpo : ∀ o n, Pois o n (fun b' => b' ∈ l ∧ b' ≠ h.next) h.bl (eraseL l h.bl) := fun o n => erase_pois o n h.next l h.bl
              have hmem : ∀ b' t', (eraseL l h.bl).get b' = some (.cells t' h.next) → b' ∈ ([] : List Nat) := by
                intro b' t' hb'
                obtain ⟨p, hp⟩ := s.clsb _ _ _ (erase_get l h.bl b' _ hb').1
                rw [hid] at hp; cases hp
              -- a new row
              have grown : ∀ {base' : Option Addr} {cap' : Nat}, sv' = .slice base' sl cap' → cap' < sl + (n' + 1) → (∀ d, (Builtin.firstCells re.size sl (.slice base' sl cap')).run P { w with drawn := d } = .ok ⟨old'⟩ { w with drawn := d }) →
                  ∃ v' w', (Builtin.append_ #[st, xt] ty #[sv', x']).run P w = .ok v' w' ∧ Post ng n0 ρ h w ⟨h.next.succ, (eraseL l h.bl).set h.next (.cells (T.setL (old ++ new) 0 .leaf) h.next), h.mem.set h.next [h.next]⟩ (.slice (some ⟨h.next, 0, none⟩) (sl + (n' + 1)) (capU + re.size)) v' w' := by
                intro base' cap' he hcap hold'
                subst he
                obtain ⟨newCap, h1, h2⟩ := append_grow (ty := ty) hr hty hre hz hrx hni hby hneed hcap (hlen w) hold' hnewd
                refine ⟨_, _, h2, ?_⟩
                have hsz : ((⟨old'⟩ : Array Value) ++ (⟨new'⟩ : Array Value) ++ Builtin.zeroCells z.cells (newCap - (sl + (n' + 1)))).size = newCap * re.size := by
                  simp only [Array.size_append, zeroCells_size, hzc, List.size_toArray]
                  rw [← ho2.length, ← hnl', hol, hnl, ← Nat.add_mul, ← Nat.add_mul]
                  congr 1; omega
                have hcs : ∀ (i : Nat) (v : Value), (old' ++ new')[i]? = some v → ((⟨old'⟩ : Array Value) ++ (⟨new'⟩ : Array Value) ++ Builtin.zeroCells z.cells (newCap - (sl + (n' + 1))))[i]? = some v := by
                  intro i v hv
                  have hlt := (List.getElem?_eq_some_iff.1 hv).1
                  have : ((⟨old'⟩ : Array Value) ++ (⟨new'⟩ : Array Value)) = ⟨old' ++ new'⟩ := by simp
                  rw [this, Array.getElem?_append_left (by simpa using hlt)]
                  simpa using hv
                generalize ((⟨old'⟩ : Array Value) ++ (⟨new'⟩ : Array Value) ++ Builtin.zeroCells z.cells (newCap - (sl + (n' + 1)))) = cs at *
                have s1 := ((s.drawn (w.drawn + 1)).pushed (.cells cs e)).sub (hpo 0 0)
                have hnew := heap_push_new { w with drawn := w.drawn + 1 } (.cells cs e)
                have hni' : ∀ i base, ρ i = some (w.heap.size, base) → False := fun i base hi => absurd (s.inh _ _ _ hi) (Nat.lt_irrefl _)
                have s2 := s1.add_row (B := w.heap.size) (base := 0) (lim := cs.size) (cl := h.next) (l := []) (vs := old ++ new) (fun i b hi => (hni' i b hi).elim) s.low (lt_of_some hnew)
                  (fun k hk => ⟨cs[k], by simp [World.cell?, hk], by simp [World.frozen?]⟩)
                  (fun i v hv => by
                    obtain ⟨v', h3, h4⟩ := (ho2.append hn2).get hv
                    exact ⟨v', by simp [World.cell?, hcs _ _ h3], by simp [World.frozen?], h4⟩)
                  (fun b t c base' hb' hr' => (hni' _ _ hr').elim) hmem (Or.inl rfl)
                refine ⟨_, s2, step_row (hpo 0 0) s (fun i b hi => (hni' i b hi).elim) rfl rfl rfl (by simp) (fun k hk _ => heap_push { w with drawn := w.drawn + 1 } _ k hk) (Or.inl (Nat.le_refl _)), ?_⟩
                exact VR.slice _ 0 _ _ _ 0 newCap (upd_same _ _ _ _ _) (Or.inl ⟨re.size, 0, hkz, rfl, Nat.zero_le _, by rw [upd_lim, hsz]; simp⟩) h1
              cases hs with
              | slice b o n3 c3 B2 base2 c' hb2 hc hn3 =>
                rw [hrb] at hb2; injection hb2 with hb2; injection hb2 with e1 e2; subst e1; subst e2
                rcases hc with ⟨sz, m, hz, hc1, hm, hc2⟩ | ⟨_, hc2⟩
                · have hsz := capOk_eq hce hz hc1
                  subst hsz
                  by_cases hfit : sl + (n' + 1) ≤ c'
                  · -- in its place
                    have hroom : base + O + (sl + (n' + 1)) * re.size ≤ ρ.lim B := by
                      have := Nat.mul_le_mul_right re.size hfit
                      omega
                    have hcell2 : ∀ j, j < new'.length → ∃ v', w.cell? ⟨B, base + (O + sl * re.size) + j, none⟩ = some v' ∧ w.frozen? ⟨B, base + (O + sl * re.size) + j, none⟩ = false := by
                      intro j hj
                      refine s.rows b t c B base hy hrb _ ?_
                      have : (sl + (n' + 1)) * re.size = sl * re.size + (n' + 1) * re.size := Nat.add_mul _ _ _
                      have h6 : new.length = (n' + 1) * re.size := hnl
                      omega
                    have hrun := run_storeCells_cells (P := P) B (base + (O + sl * re.size)) new' 0 w (fun j hj => by obtain ⟨v', h5, _⟩ := hcell2 j hj; simp [h5]) (fun j hj => by obtain ⟨v', _, h6⟩ := hcell2 j hj; simpa using h6) (scal_one hsc hn2)
                    simp only [Nat.add_zero] at hrun
                    have hfits := append_fits (ty := ty) (base := some ⟨B, base + O, none⟩) (w2 := w.setCells B (base + (O + sl * re.size)) new') hr hty hre hrx hni hfit (hlen w) hn1 (by simp only [addr_add, Nat.add_assoc]; exact hrun)
                    refine ⟨_, _, hfits, ?_⟩
                    have s1 := store_pois s (hpo (O + sl * re.size) new.length) hy hrb hml hnlen hid hcell2
                    obtain ⟨r1, r2, r3⟩ := setCells_rest B new' (base + (O + sl * re.size)) w
                    have himg : Img ρ h B := ⟨b, base, _, hy, rfl, hrb⟩
                    have s2 := s1.add_row (B := B) (base := base + O) (lim := ρ.lim B) (cl := h.next) (l := []) (vs := old ++ new) (fun i b hi => rfl) hlow (by rw [setCells_size]; exact hBlt)
                      (fun k hk => by
                        obtain ⟨v, k1, k2⟩ := s.rows b t c B base hy hrb k hk
                        rw [World.frozen?_setCells]
                        by_cases hin : base + (O + sl * re.size) ≤ k ∧ k < base + (O + sl * re.size) + new'.length
                        · have hlt : k - (base + (O + sl * re.size)) < new'.length := by omega
                          have := World.cell?_setCells_in B new' (base + (O + sl * re.size)) w (fun j hj => by obtain ⟨v', h5, _⟩ := hcell2 j hj; simp [h5]) (k - (base + (O + sl * re.size))) hlt
                          rw [show base + (O + sl * re.size) + (k - (base + (O + sl * re.size))) = k by omega] at this
                          exact ⟨_, this, k2⟩
                        · exact ⟨v, by rw [World.cell?_setCells_out B new' _ w _ (fun _ _ => by simp only; omega)]; exact k1, k2⟩)
                      (fun i v hv => by
                        rw [World.frozen?_setCells]
                        by_cases hi : i < old.length
                        · rw [List.getElem?_append_left hi] at hv
                          have hg := (getN_get hold).2 i v hv
                          have hc0' : c0 = t := by
                            unfold cellsAt at hc0
                            rw [hy] at hc0; injection hc0 with hc0; exact hc0.symm
                          rw [hc0'] at hg
                          obtain ⟨v', k1, k2, k3⟩ := hcell _ _ hg
                          rw [← Nat.add_assoc] at k1 k2
                          exact ⟨v', by rw [World.cell?_setCells_out B new' _ w _ (fun _ _ => by simp only; omega)]; exact k1, k2, k3⟩
                        · rw [List.getElem?_append_right (by omega)] at hv
                          obtain ⟨v', k1, k2⟩ := hn2.get hv
                          have hlt := (List.getElem?_eq_some_iff.1 k1).1
                          have := World.cell?_setCells_in B new' (base + (O + sl * re.size)) w (fun j hj => by obtain ⟨v', h5, _⟩ := hcell2 j hj; simp [h5]) _ hlt
                          rw [show base + (O + sl * re.size) + (i - old.length) = base + O + i by omega] at this
                          rw [List.getElem?_eq_getElem hlt] at k1
                          obtain ⟨_, _, hfz⟩ := hcell2 _ hlt
                          rw [show base + (O + sl * re.size) + (i - old.length) = base + O + i by omega] at hfz
                          exact ⟨v', by rw [this]; exact k1, hfz, k2⟩)
                      (fun b' t' c' base' hb' hr' => by
                        obtain ⟨hz', hnl⟩ := erase_get l h.bl b' _ hb'
                        obtain ⟨e1, e2⟩ := s.cls _ _ _ _ _ _ _ _ _ hy hz' hrb hr'
                        subst e2
                        exact absurd (s.mem _ _ _ _ hz' hml) hnl) hmem (Or.inl rfl)
                    refine ⟨_, s2, step_row (hpo 0 0) s (fun i b hi => rfl) r1 r2 r3 (by rw [setCells_size]; exact Nat.le_refl _) (fun k _ hk => setCells_heap B new' _ w k hk) (Or.inr himg), ?_⟩
                    exact VR.slice _ 0 _ _ _ (base + O) c' (upd_same _ _ _ _ _) (Or.inl ⟨re.size, 0, hkz, rfl, Nat.zero_le _, by rw [upd_lim]; exact hc2⟩) hfit
                  · exact grown rfl (by omega) ho1
                · omega
              | slice0 b o a' c3 hc => exact grown rfl (by omega) ho1
          · cases hl
        · rename_i hcu
          have hcu : cap < capU := by
            have : ¬ capU ≤ cap := fun e => hcu (by simpa using e)
            omega
          rw [bi_eq] at hl
          split at hl
          · rename_i hlt
            have hlt : cap < sl + (n' + 1) := by have := Nat.le_of_ble_eq_true hlt; omega
            injection hl with hl; injection hl with e1 e2; subst e1; subst e2
            cases hs with
            | slice b o n3 c3 B2 base2 c' hb2 hc hn3 =>
              rcases hc with ⟨sz, m, hz, hc1, _⟩ | ⟨hc1, _⟩
              · omega
              · subst hc1; exact fresh rfl hlt hol ho2 ho1
            | slice0 b o a' c3 hc => exact fresh rfl (by omega) hol ho2 ho1
          · rename_i hlt
            have hlt : sl + (n' + 1) ≤ cap := by
              have : ¬ cap < sl + (n' + 1) := fun e => hlt (by simp [Nat.blt]; omega)
              omega
            rw [om_some] at hl
            obtain ⟨h2, hst, hl⟩ := hl
            injection hl with e1 e2; subst e1; subst e2
            cases hs with
            | slice b o n3 c3 B2 base2 c' hb2 hc hn3 =>
              rcases hc with ⟨sz, m, hz, hc1, _⟩ | ⟨hc1, hc2⟩
              · omega
              · subst hc1
                obtain ⟨k1, k2, k3⟩ := storeRow_sound (P := P) s hb2 hn2 hst
                have := append_fits (ty := ty) (base := some ⟨B2, base2 + o, none⟩) hr hty hre hrx hni hlt (hlen w) hn1 (w2 := w.setCells B2 (base2 + (o + sl * re.size)) new') (by simp only [addr_add, Nat.add_assoc]; exact k1)
                exact ⟨_, _, this, _, k2, k3, VR.slice _ _ _ _ _ _ _ hb2 (Or.inr ⟨rfl, hc2⟩) hlt⟩
            | slice0 b o a' c3 hc => omega
  · cases hl
end
end Go.Ev
