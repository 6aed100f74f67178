/- A part of an evaluator of runs, and that it is right. -/
import Derived.Test.YtbkojaiecgdodaaDoorEvP7
set_option linter.unusedVariables false
set_option linter.unusedSimpArgs false
set_option linter.unusedSectionVars false
namespace Go.Ev
section
variable [DenV]

inductive ER (ρ : Rho) : List (Value × Value × Nat) → List MapEntry → Prop
  | nil : ER ρ [] []
  | cons (k v k' v' : Value) (n : Nat) (l : List (Value × Value × Nat)) (m : List MapEntry) (hk : VR ρ k k') (hv : VR ρ v v') (h : ER ρ l m) : ER ρ ((k, v, n) :: l) (⟨k', v', n⟩ :: m)
theorem ER.mono {ρ ρ' : Rho} (L : Le ρ ρ') {l m} (h : ER ρ l m) : ER ρ' l m := by
  induction h with
  | nil => exact .nil
  | cons k v k' v' n l m hk hv h ih => exact .cons _ _ _ _ _ _ _ (hk.mono L) (hv.mono L) ih

/-- what a record, or the block of a loop's deferred calls, stands for -/
def stOf : Nat → LoopState
  | 0 => .ready
  | 1 => .busy
  | 2 => .done
  | _ => .exhausted
inductive LR (ρ : Rho) : Blk → Obj → Prop
  | lp (x : Lp) (r : Loop) (hs : r.state = stOf x.st) (hp : r.pending = x.pend) (hn : r.tmps.size = x.n) (ht : ∀ t v, x.t.get t = some v → ∃ v', r.tmps[t]? = some v' ∧ VR ρ v v')
      (hps : r.params.toList = x.ps) (ha : r.assign = x.as) (hb : r.body = x.body) (hda : noDefC x.as = true) (hdb : noDefC x.body = true) : LR ρ (.lp x) (.loop r)
  | df : LR ρ (.df true) (.deferred (some []))
  | dn : LR ρ (.df false) (.deferred none)
theorem LR.mono {ρ ρ' : Rho} (L : Le ρ ρ') {x : Blk} {o : Obj} (h : LR ρ x o) : LR ρ' x o := by
  cases h with
  | lp x r hs hp hn ht hps ha hb hda hdb => exact .lp x r hs hp hn (fun t v hv => let ⟨v', h1, h2⟩ := ht t v hv; ⟨v', h1, h2.mono L⟩) hps ha hb hda hdb
  | df => exact .df
  | dn => exact .dn
theorem LR.nocell {ρ : Rho} {x : Blk} {o : Obj} (h : LR ρ x o) {w : World} {B : Nat} (hB : w.heap[B]? = some o) (k : Nat) : w.cell? ⟨B, k, none⟩ = none := by
  cases h <;> simp [World.cell?, hB]
theorem LR.nocells {ρ : Rho} {x : Blk} {o : Obj} (h : LR ρ x o) : ∀ c e f, o ≠ .cells c e f := by
  intro c e f; cases h <;> simp
def isLp : Blk → Bool
  | .lp _ => true
  | .df _ => true
  | _ => false

def isWr : Blk → Bool
  | .ro _ => false
  | _ => true
def isObj : Blk → Bool
  | .mp _ _ => true
  | .it _ _ _ _ => true
  | .lp _ => true
  | .df _ => true
  | _ => false
theorem isLp_obj {x : Blk} (h : isLp x = true) : isObj x = true := by cases x <;> first | rfl | (cases h; done)

/-- what lies below n0 stays, and holds what is said of it -/
structure LowOk (n0 : Nat) (w : World) : Prop where
  size : n0 ≤ w.heap.size
  low : DenV.low ≤ n0
  fix : ∀ k, k < DenV.low → w.heap[k]? = DenV.fix k
theorem LowOk.step {n0 : Nat} {w w' : World} (l : LowOk n0 w) (hs : w.heap.size ≤ w'.heap.size) (hk : ∀ k, k < n0 → w'.heap[k]? = w.heap[k]?) : LowOk n0 w' :=
  ⟨Nat.le_trans l.size hs, l.low, fun k h => (hk k (Nat.lt_of_lt_of_le h l.low)).trans (l.fix k h)⟩
structure Sim (ng n0 : Nat) (ρ : Rho) (h : H) (w : World) : Prop where
  born : ∀ i p, ρ i = some p → i < h.next
  inh : ∀ i B base, ρ i = some (B, base) → B < w.heap.size
  rows : ∀ b t c B base, h.bl.get b = some (.cells t c) → ρ b = some (B, base) → ∀ k, k < ρ.lim B → ∃ v, w.cell? ⟨B, k, none⟩ = some v ∧ w.frozen? ⟨B, k, none⟩ = false
  glob : ∀ g, g < ng → ρ g = some (g, 0)
  lowOk : LowOk n0 w
  cells : ∀ b t c, h.bl.get b = some (.cells t c) → ∃ B base, ρ b = some (B, base) ∧ n0 ≤ B ∧ B < w.heap.size ∧
    (∀ o v, t.get o = some v → ∃ v', w.cell? ⟨B, base + o, none⟩ = some v' ∧ w.frozen? ⟨B, base + o, none⟩ = false ∧ VR ρ v v')
  ro : ∀ b t, h.bl.get b = some (.ro t) → ∃ B, ρ b = some (B, 0) ∧ B < n0 ∧ (∀ o v, t.get o = some v → ∃ v', w.cell? ⟨B, o, none⟩ = some v' ∧ VR ρ v v')
  maps : ∀ b es k, h.bl.get b = some (.mp es k) → ∃ B es', ρ b = some (B, 0) ∧ n0 ≤ B ∧ w.heap[B]? = some (.map ⟨es'⟩ k) ∧ ER ρ es es'
  iters : ∀ b m s sn st, h.bl.get b = some (.it m s sn st) → ∃ B, ρ b = some (B, 0) ∧ n0 ≤ B ∧
    ((m = none ∧ w.heap[B]? = some (.mapIter none s ⟨sn⟩ st)) ∨ ∃ k M, m = some k ∧ ρ k = some (M, 0) ∧ w.heap[B]? = some (.mapIter (some M) s ⟨sn⟩ st))
  objs : ∀ b x, h.bl.get b = some x → isLp x = true → ∃ B o, ρ b = some (B, 0) ∧ n0 ≤ B ∧ w.heap[B]? = some o ∧ LR ρ x o
  cls : ∀ b t c b' t' c' B base base', h.bl.get b = some (.cells t c) → h.bl.get b' = some (.cells t' c') → ρ b = some (B, base) → ρ b' = some (B, base') → base = base' ∧ c = c'
  mem : ∀ b t c l, h.bl.get b = some (.cells t c) → h.mem.get c = some l → b ∈ l
  clsb : ∀ b t c, h.bl.get b = some (.cells t c) → ∃ p, ρ c = some p
  inj : ∀ b x b' x' B base base', h.bl.get b = some x → h.bl.get b' = some x' → isObj x = true → isObj x' = true → ρ b = some (B, base) → ρ b' = some (B, base') → b = b'

theorem Sim.low {ng n0 : Nat} {ρ : Rho} {h : H} {w : World} (s : Sim ng n0 ρ h w) : n0 ≤ w.heap.size := s.lowOk.size
def Img (ρ : Rho) (h : H) (B : Nat) : Prop := ∃ b base x, h.bl.get b = some x ∧ isWr x = true ∧ ρ b = some (B, base)

structure Step (ρ : Rho) (h : H) (w : World) (ρ' : Rho) (h' : H) (w' : World) : Prop where
  ext : Le ρ ρ'
  fresh : ∀ i p, ρ' i = some p → ρ i = some p ∨ h.next ≤ i
  next : h.next ≤ h'.next
  os : w'.os = w.os
  tape : w'.tape = w.tape
  output : w'.output = w.output
  size : w.heap.size ≤ w'.heap.size
  keep : ∀ B, B < w.heap.size → ¬ Img ρ h B → w'.heap[B]? = w.heap[B]?
  img : ∀ B, Img ρ' h' B → w.heap.size ≤ B ∨ Img ρ h B

theorem Step.refl (ρ : Rho) (h : H) (w : World) : Step ρ h w ρ h w :=
  ⟨Le.refl ρ, fun _ _ h => Or.inl h, Nat.le_refl _, rfl, rfl, rfl, Nat.le_refl _, fun _ _ _ => rfl, fun _ h => Or.inr h⟩
theorem Step.trans {ρ ρ' ρ'' : Rho} {h h' h'' : H} {w w' w'' : World} (a : Step ρ h w ρ' h' w') (b : Step ρ' h' w' ρ'' h'' w'') : Step ρ h w ρ'' h'' w'' := by
  refine ⟨a.ext.trans b.ext, ?_, Nat.le_trans a.next b.next, b.os.trans a.os, b.tape.trans a.tape, b.output.trans a.output, Nat.le_trans a.size b.size, ?_, ?_⟩
  · intro i p hi
    rcases b.fresh i p hi with h1 | h1
    · exact a.fresh i p h1
    · exact Or.inr (Nat.le_trans a.next h1)
  · intro B hB hn
    rw [b.keep B (Nat.lt_of_lt_of_le hB a.size), a.keep B hB hn]
    intro hi
    rcases a.img B hi with h1 | h1
    · omega
    · exact hn h1
  · intro B hB
    rcases b.img B hB with h1 | h1
    · exact Or.inl (Nat.le_trans a.size h1)
    · exact a.img B h1

def Post (ng n0 : Nat) (ρ : Rho) (h : H) (w : World) (h' : H) (v : Value) (v' : Value) (w' : World) : Prop :=
  ∃ ρ', Sim ng n0 ρ' h' w' ∧ Step ρ h w ρ' h' w' ∧ VR ρ' v v'

end
variable [Den]

/-- a draw from the tape alone -/
theorem Sim.drawn {ng n0 : Nat} {ρ : Rho} {h : H} {w : World} (s : Sim ng n0 ρ h w) (n : Nat) : Sim ng n0 ρ h { w with drawn := n } :=
  ⟨s.born, s.inh, s.rows, s.glob, ⟨s.lowOk.size, s.lowOk.low, s.lowOk.fix⟩, s.cells, s.ro, s.maps, s.iters, s.objs, s.cls, s.mem, s.clsb, s.inj⟩
theorem Step.drawn (ρ : Rho) (h : H) (w : World) (n : Nat) : Step ρ h w ρ h { w with drawn := n } :=
  ⟨Le.refl ρ, fun _ _ h => Or.inl h, Nat.le_refl _, rfl, rfl, rfl, Nat.le_refl _, fun _ _ _ => rfl, fun _ h => Or.inr h⟩

section
variable {P : Program} {eqs : List Nat} {clone : Sp} {n0 : Nat} {ρ : Rho} {h : H} {α : A} {a : Act} {w : World}

theorem cellsAt_sound {ng : Nat} (s : Sim ng n0 ρ h w) {b B base : Nat} {t : T Value} (hb : ρ b = some (B, base)) (hc : cellsAt h b = some t) :
    ∀ o v, t.get o = some v → ∃ v', w.cell? ⟨B, base + o, none⟩ = some v' ∧ VR ρ v v' := by
  unfold cellsAt at hc
  rw [ob_some] at hc
  obtain ⟨x, hx, hc⟩ := hc
  split at hc
  · injection hc with hc; subst hc
    obtain ⟨B', base', h1, _, _, h2⟩ := s.cells _ _ _ hx
    rw [h1] at hb; injection hb with hb; injection hb with hb1 hb2; subst hb1; subst hb2
    intro o v hv
    obtain ⟨v', h3, _, h4⟩ := h2 o v hv
    exact ⟨v', h3, h4⟩
  · injection hc with hc; subst hc
    obtain ⟨B', h1, _, h2⟩ := s.ro _ _ hx
    rw [h1] at hb; injection hb with hb; injection hb with hb1 hb2; subst hb1; subst hb2
    intro o v hv
    simpa using h2 o v hv
  · cases hc

theorem load_cells {B base o n : Nat} {t : T Value} {l : List Value} (hg : getN t n o = some l)
    (hc : ∀ o v, t.get o = some v → ∃ v', w.cell? ⟨B, base + o, none⟩ = some v' ∧ VR ρ v v') :
    ∃ l', (loadCells ⟨B, base + o, none⟩ n).run P w = .ok ⟨l'⟩ w ∧ VRs ρ l l' ∧ ∀ (i : Nat) (v : Value), l'[i]? = some v → w.cell? ⟨B, base + o + i, none⟩ = some v := by
  obtain ⟨h1, h2⟩ := getN_get hg
  have : ∃ l' : List Value, l.length = l'.length ∧ ∀ (i : Nat) (v : Value), l[i]? = some v → ∃ v', l'[i]? = some v' ∧ w.cell? ⟨B, base + (o + i), none⟩ = some v' ∧ VR ρ v v' := by
    clear hg h1
    induction l generalizing o with
    | nil => exact ⟨[], rfl, fun i v hv => by simp at hv⟩
    | cons u l ih =>
      obtain ⟨u', hu1, hu2⟩ := hc o u (by simpa using h2 0 u rfl)
      obtain ⟨l', hl1, hl2⟩ := ih (o := o + 1) (fun i v hv => by have := h2 (i + 1) v (by simpa using hv); rwa [show o + (i + 1) = o + 1 + i by omega] at this)
      refine ⟨u' :: l', by simp [hl1], fun i v hv => ?_⟩
      cases i with
      | zero => simp at hv; subst hv; exact ⟨u', rfl, by simpa using hu1, hu2⟩
      | succ i =>
        obtain ⟨v', h3, h4, h5⟩ := hl2 i v (by simpa using hv)
        exact ⟨v', by simpa using h3, by rw [show o + (i + 1) = o + 1 + i by omega]; exact h4, h5⟩
  obtain ⟨l', hl, hall⟩ := this
  have hcell : ∀ (i : Nat) (v : Value), l'[i]? = some v → w.cell? ⟨B, base + o + i, none⟩ = some v := by
    intro i v hv
    have hlt : i < l.length := by rw [hl]; exact (List.getElem?_eq_some_iff.1 hv).1
    obtain ⟨v', h3, h4, _⟩ := hall i l[i] (List.getElem?_eq_getElem hlt)
    rw [h3] at hv; injection hv with hv; subst hv
    rwa [Nat.add_assoc]
  refine ⟨l', ?_, VRs.of_get hl fun i v hv => let ⟨v', h3, _, h5⟩ := hall i v hv; ⟨v', h3, h5⟩, hcell⟩
  have := run_loadCells_list (P := P) w ⟨B, base + o, none⟩ l' fun j v hv => by rw [addr_add]; exact hcell j v hv
  rw [← hl, h1] at this
  exact this

theorem loadE_sound {ng : Nat} (s : Sim ng n0 ρ h w) {t : TypeId} {p p' v : Value} (hp : VR ρ p p') (hl : loadE (Env.of P eqs clone) t p h = some v) :
    ∃ ad, p' = .pointer (some ad) ∧ Y P (loadVar t ad) ρ v w := by
  unfold loadE at hl
  split at hl
  · rename_i b o
    rw [ob_some] at hl
    obtain ⟨r, hr, hl⟩ := hl
    rw [ob_some] at hl
    obtain ⟨c, hc, hl⟩ := hl
    cases hp with
    | ptr b o B base hb =>
      refine ⟨_, rfl, ?_⟩
      have hcs := cellsAt_sound s hb hc
      cases hag : isAggD r.u
      · rw [hag, bi_false] at hl
        obtain ⟨v', h1, h2⟩ := hcs o v hl
        exact ⟨v', by simp [loadVar, run_agg hr, hag, h1], h2⟩
      · rw [hag, bi_true, om_some] at hl
        obtain ⟨vs, hvs, rfl⟩ := hl
        obtain ⟨l', h1, h2, _⟩ := load_cells (P := P) hvs hcs
        exact ⟨.agg ⟨l'⟩, by simp [loadVar, run_agg hr, hag, run_size hr, h1], .agg _ _ h2⟩
  · cases hl
end
end Go.Ev
