/- A part of an evaluator of runs, and that it is right. -/
import Derived.Test.YtbkojaiecgdodaaDoorEvL
set_option linter.unusedVariables false
set_option linter.unusedSimpArgs false
set_option linter.unusedSectionVars false
open Go.RowKit
namespace Go.Ev
theorem listEq_eq {α : Type} {f : α → α → Bool} (hf : ∀ a b, f a b = true → a = b) : ∀ {l m : List α}, listEq f l m = true → l = m := by
  intro l
  induction l with
  | nil => intro m h; cases m with | nil => rfl | cons _ _ => cases h
  | cons a l ih =>
    intro m h
    cases m with
    | nil => cases h
    | cons b m => simp only [listEq, bi_tf] at h; rw [hf _ _ h.1, ih h.2]
theorem valEq_zero : valEq 0 = veq1 := rfl
theorem valEq_succ (n : Nat) (a b : Value) : valEq (n + 1) a b = match a, b with
    | .agg ⟨x⟩, .agg ⟨y⟩ => listEq (valEq n) x y
    | .tuple ⟨x⟩, .tuple ⟨y⟩ => listEq (valEq n) x y
    | .func (.func f) ⟨x⟩ ⟨z⟩, .func (.func g) ⟨y⟩ ⟨u⟩ => bi (Nat.beq f g) (bi (listEq (valEq n) x y) (listEq (valEq n) z u) false) false
    | .iface t v, .iface u w => bi (Nat.beq t u) (valEq n v w) false
    | a, b => veq1 a b := rfl
theorem valEq_eq : ∀ (n : Nat) (a b : Value), valEq n a b = true → a = b := by
  intro n
  induction n with
  | zero => intro a b h; exact veq1_eq h
  | succ n ih =>
    intro a b h
    rw [valEq_succ] at h
    split at h
    · rw [listEq_eq ih h]
    · rw [listEq_eq ih h]
    · rw [bi_tf, bi_tf] at h; rw [Nat.eq_of_beq_eq_true h.1, listEq_eq ih h.2.1, listEq_eq ih h.2.2]
    · rw [bi_tf] at h; rw [Nat.eq_of_beq_eq_true h.1, ih _ _ h.2]
    · exact veq1_eq h
theorem natBeq_eq : ∀ a b : Nat, Nat.beq a b = true → a = b := fun a b h => Nat.eq_of_beq_eq_true h
theorem treeEq_eq : ∀ (t s : T Value), treeEq t s = true → t = s := by
  intro t
  induction t with
  | leaf =>
    intro s h
    cases s with
    | leaf => rfl
    | node _ _ _ => cases h
  | node v l r il ir =>
    intro s h
    cases s with
    | leaf => cases h
    | node u m n =>
      have h : bi (optEq (valEq 3) v u) (bi (treeEq l m) (treeEq r n) false) false = true := h
      rw [bi_tf, bi_tf] at h
      obtain ⟨h1, h2, h3⟩ := h
      rw [il _ h2, ir _ h3]
      have : v = u := by
        unfold optEq at h1
        split at h1
        · rfl
        · rw [valEq_eq 3 _ _ h1]
        · cases h1
      rw [this]
theorem entEq_eq (a b : Value × Value × Nat) (h : entEq (valEq 3) a b = true) : a = b := by
  obtain ⟨a1, a2, a3⟩ := a
  obtain ⟨b1, b2, b3⟩ := b
  simp only [entEq, bi_tf] at h
  rw [valEq_eq 3 _ _ h.1, valEq_eq 3 _ _ h.2.1, Nat.eq_of_beq_eq_true h.2.2]
theorem blkEq_eq {a b : Blk} (h : blkEq a b = true) : a = b := by
  unfold blkEq at h
  split at h
  · rw [bi_tf] at h; rw [Nat.eq_of_beq_eq_true h.1, treeEq_eq _ _ h.2]
  · rw [treeEq_eq _ _ h]
  · rw [bi_tf] at h; rw [Nat.eq_of_beq_eq_true h.1, listEq_eq entEq_eq h.2]
  · rename_i m s n st m' s' n' st'
    rw [bi_tf, bi_tf, bi_tf] at h
    obtain ⟨h1, h2, h3, h4⟩ := h
    have : m = m' := by
      unfold onatEq at h1
      split at h1
      · rfl
      · rw [Nat.eq_of_beq_eq_true h1]
      · cases h1
    rw [this, Nat.eq_of_beq_eq_true h2, listEq_eq natBeq_eq h3, Nat.eq_of_beq_eq_true h4]
  · cases h
theorem natIn_iff {n : Nat} {l : List Nat} : natIn n l = true ↔ n ∈ l := by
  induction l with
  | nil => simp [natIn]
  | cons a l ih =>
    simp only [natIn, bi_eq, List.mem_cons]
    by_cases h : a = n
    · subst h; simp
    · have h2 : ¬ Nat.beq a n = true := fun e => h (Nat.eq_of_beq_eq_true e)
      rw [if_neg h2, ih]
      constructor
      · exact Or.inr
      · rintro (e | e)
        · exact absurd e.symm h
        · exact e
theorem fsts_mem {α : Type} {l : List (Nat × α)} {n : Nat} : n ∈ fsts l ↔ ∃ x, (n, x) ∈ l := by
  induction l with
  | nil => simp [fsts]
  | cons p l ih =>
    obtain ⟨a, y⟩ := p
    simp only [fsts, List.mem_cons, ih, Prod.mk.injEq]
    constructor
    · rintro (rfl | ⟨x, h⟩)
      · exact ⟨y, Or.inl ⟨rfl, rfl⟩⟩
      · exact ⟨x, Or.inr h⟩
    · rintro ⟨x, ⟨rfl, rfl⟩ | h⟩
      · exact Or.inl rfl
      · exact Or.inr ⟨x, h⟩
theorem setP_get {α : Type} : ∀ {l : List (Nat × α)} {t : T α} {k : Nat} {x : α}, (setP l t).get k = some x → (k, x) ∈ l ∨ (k ∉ fsts l ∧ t.get k = some x) := by
  intro l
  induction l with
  | nil => intro t k x h; exact Or.inr ⟨by simp [fsts], h⟩
  | cons p l ih =>
    intro t k x h
    have h : (T.set (setP l t) p.1 p.2).get k = some x := h
    rcases T.get_set h with ⟨rfl, rfl⟩ | ⟨hne, h⟩
    · exact Or.inl (List.mem_cons_self ..)
    · rcases ih h with h1 | ⟨h1, h2⟩
      · exact Or.inl (List.mem_cons_of_mem _ h1)
      · exact Or.inr ⟨by simp only [fsts, List.mem_cons, not_or]; exact ⟨hne, h1⟩, h2⟩
theorem delP_get {α : Type} : ∀ {l : List Nat} {t : T α} {k : Nat} {x : α}, (delP l t).get k = some x → k ∉ l ∧ t.get k = some x := by
  intro l
  induction l with
  | nil => intro t k x h; exact ⟨by simp, h⟩
  | cons i l ih =>
    intro t k x h
    have h : (T.del (delP l t) i).get k = some x := h
    obtain ⟨h1, h2⟩ := T.get_del h
    obtain ⟨h3, h4⟩ := ih h2
    exact ⟨by simp only [List.mem_cons, not_or]; exact ⟨h1, h3⟩, h4⟩

theorem delC_get {α : Type} : ∀ {l : List (Nat × List Nat)} {t : T α} {k : Nat} {x : α}, (delC l t).get k = some x → (∀ c m, (c, m) ∈ l → k ∉ m) ∧ t.get k = some x := by
  intro l
  induction l with
  | nil => intro t k x h; exact ⟨by simp, h⟩
  | cons p l ih =>
    intro t k x h
    obtain ⟨c0, m0⟩ := p
    have h : (delP m0 (delC l t)).get k = some x := h
    obtain ⟨h1, h2⟩ := delP_get h
    obtain ⟨h3, h4⟩ := ih h2
    refine ⟨fun c m hm => ?_, h4⟩
    rcases List.mem_cons.1 hm with e | hm
    · injection e with e1 e2; subst e2; exact h1
    · exact h3 _ _ hm
structure PreOk (h : H) (r : Run) : Prop where
  next : r.next = h.next
  bl : ∀ b x, (b, x) ∈ r.pre → h.bl.get b = some x
  mem : ∀ c l, (c, l) ∈ r.mem → h.mem.get c = some l
structure RunChk (r : Run) : Prop where
  cls : ∀ b t c, (b, Blk.cells t c) ∈ r.pre → c ∈ fsts r.mem
  noobj : ∀ b x, (b, x) ∈ r.pre → isObj x = false
  ent : ∀ b t c, (b, Blk.cells t c) ∈ r.pre → ∃ o v, t.get o = some v
  ids : ∀ b x, (b, x) ∈ r.post → b ∈ fsts r.pre ∨ r.next ≤ b
  cls' : ∀ b t c, (b, Blk.cells t c) ∈ r.post → c ∈ fsts r.mem'
  get : ∀ b x, (b, x) ∈ r.post → (endR r).bl.get b = some x
  mids : ∀ c l, (c, l) ∈ r.mem' → c ∈ fsts r.mem ∨ r.next ≤ c
  mget : ∀ c l, (c, l) ∈ r.mem' → (endR r).mem.get c = some l
theorem preOk_spec {h : H} {r : Run} (hn : Nat.beq r.next h.next = true) (hp : preOk h r = true) : PreOk h r := by
  unfold preOk at hp
  rw [bi_tf, List.all_eq_true, List.all_eq_true] at hp
  obtain ⟨h1, h2⟩ := hp
  refine ⟨Nat.eq_of_beq_eq_true hn, fun b x hx => ?_, fun c l hl => ?_⟩
  · have := h1 _ hx
    split at this
    · rename_i y hy
      rw [hy, blkEq_eq this]
    · cases this
  · have := h2 _ hl
    split at this
    · rename_i l' hl'
      rw [hl', listEq_eq natBeq_eq this]
    · cases this
theorem runChk_spec {r : Run} (h : runChk r = true) : RunChk r := by
  unfold runChk at h
  rw [bi_tf, bi_tf, List.all_eq_true, List.all_eq_true, List.all_eq_true] at h
  obtain ⟨h1, h2, h3⟩ := h
  have g2 : ∀ b x, (b, x) ∈ r.post → (b ∈ fsts r.pre ∨ r.next ≤ b) ∧ (∀ c, classOf x = some c → c ∈ fsts r.mem') ∧ (endR r).bl.get b = some x := by
    intro b x hx
    have := h2 _ hx
    rw [bi_tf, bi_tf] at this
    obtain ⟨k1, k2, k3⟩ := this
    refine ⟨?_, fun c hc => ?_, ?_⟩
    · rw [bi_eq] at k1
      split at k1
      · exact Or.inl (natIn_iff.1 ‹_›)
      · exact Or.inr (Nat.le_of_ble_eq_true k1)
    · have hc : classOf (b, x).2 = some c := hc
      rw [hc] at k2; exact natIn_iff.1 k2
    · split at k3
      · rename_i y hy; rw [hy, blkEq_eq k3]
      · cases k3
  have g3 : ∀ c l, (c, l) ∈ r.mem' → (c ∈ fsts r.mem ∨ r.next ≤ c) ∧ (endR r).mem.get c = some l := by
    intro c l hl
    have := h3 _ hl
    rw [bi_tf] at this
    obtain ⟨k1, k3⟩ := this
    refine ⟨?_, ?_⟩
    · rw [bi_eq] at k1
      split at k1
      · exact Or.inl (natIn_iff.1 ‹_›)
      · exact Or.inr (Nat.le_of_ble_eq_true k1)
    · split at k3
      · rename_i y hy; rw [hy, listEq_eq natBeq_eq k3]
      · cases k3
  have g1 : ∀ b t c, (b, Blk.cells t c) ∈ r.pre → c ∈ fsts r.mem ∧ ∃ o v, t.get o = some v := by
    intro b t c hb
    have := h1 _ hb
    have : bi (natIn c (fsts r.mem)) (match placeE t with | some q => (match t.get q with | some _ => true | none => false) | none => false) false = true := this
    rw [bi_tf] at this
    obtain ⟨k1, k2⟩ := this
    refine ⟨natIn_iff.1 k1, ?_⟩
    split at k2
    · split at k2
      · exact ⟨_, _, ‹_›⟩
      · cases k2
    · cases k2
  have g0 : ∀ b x, (b, x) ∈ r.pre → isObj x = false := by
    intro b x hb
    have := h1 _ hb
    cases x with
    | cells t c => rfl
    | ro t => rfl
    | mp es k => cases this
    | it m sn seen st => cases this
    | lp x => cases this
    | df x => cases this
  exact ⟨fun b t c hb => (g1 b t c hb).1, g0, fun b t c hb => (g1 b t c hb).2, fun b x hx => (g2 b x hx).1, fun b t c hb => (g2 b _ hb).2.1 c rfl, fun b x hx => (g2 b x hx).2.2, fun c l hl => (g3 c l hl).1, fun c l hl => (g3 c l hl).2⟩

section
variable [Den] {ng n0 : Nat} {ρ ρ' : Rho} {h : H} {w w' : World} {r : Run}
theorem start_bl (p : PreOk h r) {b : Nat} {x : Blk} (hb : (startR r).bl.get b = some x) : (b, x) ∈ r.pre ∧ h.bl.get b = some x := by
  rcases setP_get hb with h1 | ⟨_, h1⟩
  · exact ⟨h1, p.bl _ _ h1⟩
  · cases h1
theorem start_mem (p : PreOk h r) {c : Nat} {l : List Nat} (hc : (startR r).mem.get c = some l) : (c, l) ∈ r.mem ∧ h.mem.get c = some l := by
  rcases setP_get hc with h1 | ⟨_, h1⟩
  · exact ⟨h1, p.mem _ _ h1⟩
  · cases h1
theorem Sim.atRun (s : Sim ng n0 ρ h w) (p : PreOk h r) : Sim ng n0 ρ (startR r) w := by
  have k : ∀ {b : Nat} {x : Blk}, (startR r).bl.get b = some x → h.bl.get b = some x := fun hb => (start_bl p hb).2
  exact ⟨fun i q hi => by show i < r.next; rw [p.next]; exact s.born i q hi, s.inh, fun b t c B base hb => s.rows b t c B base (k hb), s.glob, s.lowOk, fun b t c hb => s.cells b t c (k hb), fun b t hb => s.ro b t (k hb), fun b es n hb => s.maps b es n (k hb), fun b m a sn st hb => s.iters b m a sn st (k hb), fun b x hb => s.objs b x (k hb),
    fun b t c b' t' c' B base base' hb hb' => s.cls b t c b' t' c' B base base' (k hb) (k hb'), fun b t c l hb hl => s.mem b t c l (k hb) (start_mem p hl).2, fun b t c hb => s.clsb b t c (k hb), fun b x b' x' B base base' hb hb' => s.inj b x b' x' B base base' (k hb) (k hb')⟩

theorem nocell_map {B k c : Nat} {es : Array MapEntry} (h : w.heap[B]? = some (.map es c)) : w.cell? ⟨B, k, none⟩ = none := by simp [World.cell?, h]
theorem nocell_iter {B k a c : Nat} {m : Option Nat} {es : Array Nat} (h : w.heap[B]? = some (.mapIter m a es c)) : w.cell? ⟨B, k, none⟩ = none := by simp [World.cell?, h]
theorem obj_nocell (s : Sim ng n0 ρ h w) {b B base : Nat} {x : Blk} (hb : h.bl.get b = some x) (hx : isObj x = true) (hr : ρ b = some (B, base)) (k : Nat) : w.cell? ⟨B, k, none⟩ = none := by
  cases x with
  | cells t c => cases hx
  | ro t => cases hx
  | mp es c =>
    obtain ⟨B', _, h1, _, h3, _⟩ := s.maps _ _ _ hb
    rw [hr] at h1; injection h1 with h1; injection h1 with e1 _; subst e1
    exact nocell_map h3
  | it m sn seen st =>
    obtain ⟨B', h1, _, h3⟩ := s.iters _ _ _ _ _ hb
    rw [hr] at h1; injection h1 with h1; injection h1 with e1 _; subst e1
    rcases h3 with ⟨_, h3⟩ | ⟨_, _, _, _, h3⟩ <;> exact nocell_iter h3
  | lp x =>
    obtain ⟨B', _, h1, _, h3, h4⟩ := s.objs _ _ hb rfl
    rw [hr] at h1; injection h1 with h1; injection h1 with e1 _; subst e1
    exact h4.nocell h3 k
  | df x =>
    obtain ⟨B', _, h1, _, h3, h4⟩ := s.objs _ _ hb rfl
    rw [hr] at h1; injection h1 with h1; injection h1 with e1 _; subst e1
    exact h4.nocell h3 k
/-- a row that is no part of the run lies where the run writes nothing -/
theorem outside_row (s : Sim ng n0 ρ h w) (p : PreOk h r) (hc : RunChk r) {b B base c : Nat} {t : T Value} (hb : h.bl.get b = some (.cells t c)) (hn : ∀ c l, (c, l) ∈ r.mem → b ∉ l) (hr : ρ b = some (B, base)) : ¬ Img ρ (startR r) B := by
  rintro ⟨b0, base0, y, hb0, hy, hr0⟩
  obtain ⟨hm, hb0⟩ := start_bl p hb0
  have hno := hc.noobj _ _ hm
  cases y with
  | ro t' => cases hy
  | cells t' c' =>
    obtain ⟨rfl, rfl⟩ := s.cls b t c b0 t' c' B base base0 hb hb0 hr hr0
    obtain ⟨l, hl⟩ := fsts_mem.1 (hc.cls _ _ _ hm)
    exact hn _ _ hl (s.mem b t c l hb (p.mem _ _ hl))
  | mp es k => cases hno
  | it m sn seen st => cases hno
  | lp x => cases hno
  | df x => cases hno
theorem outside_obj (s : Sim ng n0 ρ h w) (p : PreOk h r) (hc : RunChk r) {b B base : Nat} {x : Blk} (hb : h.bl.get b = some x) (hx : isObj x = true) (hn : b ∉ fsts r.pre) (hr : ρ b = some (B, base)) : ¬ Img ρ (startR r) B := by
  rintro ⟨b0, base0, y, hb0, hy, hr0⟩
  obtain ⟨hm, hb0⟩ := start_bl p hb0
  have hne : b0 ≠ b := fun e => hn (by rw [← e]; exact fsts_mem.2 ⟨_, hm⟩)
  cases y with
  | ro t' => cases hy
  | cells t' c' =>
    obtain ⟨o, v, hv⟩ := hc.ent _ _ _ hm
    obtain ⟨B', base', g1, _, _, g4⟩ := s.cells _ _ _ hb0
    rw [hr0] at g1; injection g1 with g1; injection g1 with e1 e2; subst e1; subst e2
    obtain ⟨v', q, _⟩ := g4 o v hv
    rw [obj_nocell s hb hx hr] at q; cases q
  | mp es k => exact hne (s.inj b0 _ b _ B base0 base hb0 hb rfl hx hr0 hr)
  | it m sn seen st => exact hne (s.inj b0 _ b _ B base0 base hb0 hb rfl hx hr0 hr)
  | lp x => exact hne (s.inj b0 _ b _ B base0 base hb0 hb rfl hx hr0 hr)
  | df x => exact hne (s.inj b0 _ b _ B base0 base hb0 hb rfl hx hr0 hr)
theorem merge_bl {b : Nat} {x : Blk} (hc : RunChk r) (hb : (mergeR h r).bl.get b = some x) : ((b, x) ∈ r.post ∧ (endR r).bl.get b = some x) ∨ ((b ∉ fsts r.post ∧ ∀ c l, (c, l) ∈ r.mem → b ∉ l) ∧ b ∉ fsts r.pre ∧ h.bl.get b = some x) := by
  rcases setP_get hb with h1 | ⟨h1, h2⟩
  · exact Or.inl ⟨h1, hc.get _ _ h1⟩
  · obtain ⟨h5, h2⟩ := delC_get h2
    obtain ⟨h3, h4⟩ := delP_get h2
    exact Or.inr ⟨⟨h1, h5⟩, h3, h4⟩
theorem merge_mem {c : Nat} {l : List Nat} (hc : RunChk r) (hm : (mergeR h r).mem.get c = some l) : ((c, l) ∈ r.mem' ∧ (endR r).mem.get c = some l) ∨ (c ∉ fsts r.mem' ∧ c ∉ fsts r.mem ∧ h.mem.get c = some l) := by
  rcases setP_get hm with h1 | ⟨h1, h2⟩
  · exact Or.inl ⟨h1, hc.mget _ _ h1⟩
  · obtain ⟨h3, h4⟩ := delP_get h2
    exact Or.inr ⟨h1, h3, h4⟩
theorem Sim.merged (s : Sim ng n0 ρ h w) (p : PreOk h r) (hc : RunChk r) (s' : Sim ng n0 ρ' (endR r) w') (st : Step ρ (startR r) w ρ' (endR r) w') : Sim ng n0 ρ' (mergeR h r) w' ∧ Step ρ h w ρ' (mergeR h r) w' := by
  have L := st.ext
  have keep : ∀ {B : Nat}, B < w.heap.size → ¬ Img ρ (startR r) B → w'.heap[B]? = w.heap[B]? := fun hB hi => st.keep _ hB hi
  -- a block of before lies where it lay
  have same : ∀ {b : Nat} {x : Blk} {B base : Nat}, h.bl.get b = some x → ρ' b = some (B, base) → ρ b = some (B, base) := by
    intro b x B base hb hr
    obtain ⟨q, hq⟩ := s.live hb
    rw [L.get _ _ hq] at hr
    rw [hq, ← hr]
  -- nothing of the run lies where a block of before lies, that the run does not write
  have apart : ∀ {b B base base' : Nat} {x : Blk}, (endR r).bl.get b = some x → isWr x = true → ρ' b = some (B, base) → B < w.heap.size → ¬ Img ρ (startR r) B → False := by
    intro b B base base' x hb hx hr hB hi
    rcases st.img B ⟨b, base, x, hb, hx, hr⟩ with h1 | h1
    · omega
    · exact hi h1
  refine ⟨⟨s'.born, s'.inh, ?_, s'.glob, s'.lowOk, ?_, ?_, ?_, ?_, ?_, ?_, ?_, ?_, ?_⟩, ⟨L, ?_, ?_, st.os, st.tape, st.output, st.size, ?_, ?_⟩⟩
  · intro b t c B base hb hr k hk
    rcases merge_bl hc hb with ⟨_, h1⟩ | ⟨hz, h2, h3⟩
    · exact s'.rows b t c B base h1 hr k hk
    · have hr0 := same h3 hr
      rw [L.lim _ _ _ hr0] at hk
      obtain ⟨v, q1, q2⟩ := s.rows b t c B base h3 hr0 k hk
      have e := keep (s.inh _ _ _ hr0) (outside_row s p hc h3 hz.2 hr0)
      exact ⟨v, by rw [cell_of e]; exact q1, by rw [frozen_of e]; exact q2⟩
  · intro b t c hb
    rcases merge_bl hc hb with ⟨_, h1⟩ | ⟨hz, h2, h3⟩
    · exact s'.cells b t c h1
    · obtain ⟨B, base, g1, g2, g3, g4⟩ := s.cells b t c h3
      refine ⟨B, base, L.get _ _ g1, g2, Nat.lt_of_lt_of_le g3 st.size, fun o v hv => ?_⟩
      obtain ⟨v', q1, q2, q3⟩ := g4 o v hv
      have e := keep g3 (outside_row s p hc h3 hz.2 g1)
      exact ⟨v', by rw [cell_of e]; exact q1, by rw [frozen_of e]; exact q2, q3.mono L⟩
  · intro b t hb
    rcases merge_bl hc hb with ⟨_, h1⟩ | ⟨hz, h2, h3⟩
    · exact s'.ro b t h1
    · obtain ⟨B, g1, g2, g3⟩ := s.ro b t h3
      refine ⟨B, L.get _ _ g1, g2, fun o v hv => ?_⟩
      obtain ⟨v', q1, q3⟩ := g3 o v hv
      have e := keep (s.inh _ _ _ g1) (fun hi => by have := img_low s (B := B) (by
        obtain ⟨b0, base0, y, hb0, hy, hr0⟩ := hi
        exact ⟨b0, base0, y, (start_bl p hb0).2, hy, hr0⟩); omega)
      exact ⟨v', by rw [cell_of e]; exact q1, q3.mono L⟩
  · intro b es k hb
    rcases merge_bl hc hb with ⟨_, h1⟩ | ⟨hz, h2, h3⟩
    · exact s'.maps b es k h1
    · obtain ⟨B, es', g1, g2, g3, g4⟩ := s.maps b es k h3
      have e := keep (s.inh _ _ _ g1) (outside_obj s p hc h3 rfl h2 g1)
      exact ⟨B, es', L.get _ _ g1, g2, by rw [e]; exact g3, g4.mono L⟩
  · intro b m sn seen st2 hb
    rcases merge_bl hc hb with ⟨_, h1⟩ | ⟨hz, h2, h3⟩
    · exact s'.iters b m sn seen st2 h1
    · obtain ⟨B, g1, g2, g3⟩ := s.iters b m sn seen st2 h3
      have e := keep (s.inh _ _ _ g1) (outside_obj s p hc h3 rfl h2 g1)
      refine ⟨B, L.get _ _ g1, g2, ?_⟩
      rcases g3 with ⟨q1, q2⟩ | ⟨k, M, q1, q2, q3⟩
      · exact Or.inl ⟨q1, by rw [e]; exact q2⟩
      · exact Or.inr ⟨k, M, q1, L.get _ _ q2, by rw [e]; exact q3⟩
  · intro b x hb hx
    rcases merge_bl hc hb with ⟨_, h1⟩ | ⟨hz, h2, h3⟩
    · exact s'.objs b x h1 hx
    · obtain ⟨B, o, g1, g2, g3, g4⟩ := s.objs b x h3 hx
      have e := keep (s.inh _ _ _ g1) (outside_obj s p hc h3 (isLp_obj hx) h2 g1)
      exact ⟨B, o, L.get _ _ g1, g2, by rw [e]; exact g3, g4.mono L⟩
  · intro b t c b' t' c' B base base' hb hb' hr hr'
    rcases merge_bl hc hb with ⟨_, h1⟩ | ⟨hz, h2, h3⟩
    · rcases merge_bl hc hb' with ⟨_, h1'⟩ | ⟨hz', h2', h3'⟩
      · exact s'.cls b t c b' t' c' B base base' h1 h1' hr hr'
      · have hr0 := same h3' hr'
        exact (apart (base' := 0) h1 rfl hr (s.inh _ _ _ hr0) (outside_row s p hc h3' hz'.2 hr0)).elim
    · rcases merge_bl hc hb' with ⟨_, h1'⟩ | ⟨hz', h2', h3'⟩
      · have hr0 := same h3 hr
        exact (apart (base' := 0) h1' rfl hr' (s.inh _ _ _ hr0) (outside_row s p hc h3 hz.2 hr0)).elim
      · exact s.cls b t c b' t' c' B base base' h3 h3' (same h3 hr) (same h3' hr')
  · intro b t c l hb hl
    rcases merge_bl hc hb with ⟨g0, h1⟩ | ⟨hz, h2, h3⟩
    · rcases merge_mem hc hl with ⟨_, q⟩ | ⟨q1, q2, q3⟩
      · exact s'.mem b t c l h1 q
      · exact absurd (hc.cls' _ _ _ g0) q1
    · rcases merge_mem hc hl with ⟨q0, q⟩ | ⟨q1, q2, q3⟩
      · rcases hc.mids _ _ q0 with k1 | k1
        · obtain ⟨l0, hl0⟩ := fsts_mem.1 k1
          exact absurd (s.mem b t c l0 h3 (p.mem _ _ hl0)) (hz.2 _ _ hl0)
        · obtain ⟨q5, hq5⟩ := s.clsb b t c h3
          have := s.born _ _ hq5
          rw [p.next] at k1
          omega
      · exact s.mem b t c l h3 q3
  · intro b t c hb
    rcases merge_bl hc hb with ⟨_, h1⟩ | ⟨hz, h2, h3⟩
    · exact s'.clsb b t c h1
    · obtain ⟨q, hq⟩ := s.clsb b t c h3
      exact ⟨q, L.get _ _ hq⟩
  · intro b x b' x' B base base' hb hb' ho ho' hr hr'
    rcases merge_bl hc hb with ⟨_, h1⟩ | ⟨hz, h2, h3⟩
    · rcases merge_bl hc hb' with ⟨_, h1'⟩ | ⟨hz', h2', h3'⟩
      · exact s'.inj b x b' x' B base base' h1 h1' ho ho' hr hr'
      · have hr0 := same h3' hr'
        exact (apart (base' := 0) h1 (isObj_wr ho) hr (s.inh _ _ _ hr0) (outside_obj s p hc h3' ho' h2' hr0)).elim
    · rcases merge_bl hc hb' with ⟨_, h1'⟩ | ⟨hz', h2', h3'⟩
      · have hr0 := same h3 hr
        exact (apart (base' := 0) h1' (isObj_wr ho') hr' (s.inh _ _ _ hr0) (outside_obj s p hc h3 ho h2 hr0)).elim
      · exact s.inj b x b' x' B base base' h3 h3' ho ho' (same h3 hr) (same h3' hr')
  · intro i q hi
    rcases st.fresh i q hi with h1 | h1
    · exact Or.inl h1
    · right; rw [← p.next]; exact h1
  · show h.next ≤ r.next'
    rw [← p.next]; exact st.next
  · intro B hB hi
    refine st.keep B hB fun hi2 => hi ?_
    obtain ⟨b0, base0, y, hb0, hy, hr0⟩ := hi2
    exact ⟨b0, base0, y, (start_bl p hb0).2, hy, hr0⟩
  · rintro B ⟨b, base, x, hb, hx, hr⟩
    rcases merge_bl hc hb with ⟨_, h1⟩ | ⟨hz, h2, h3⟩
    · rcases st.img B ⟨b, base, x, h1, hx, hr⟩ with k | ⟨b0, base0, y, hb0, hy, hr0⟩
      · exact Or.inl k
      · exact Or.inr ⟨b0, base0, y, (start_bl p hb0).2, hy, hr0⟩
    · exact Or.inr ⟨b, base, x, h3, hx, same h3 hr⟩
end
theorem lookR_cons (r : Run) (l : List Run) (f : Nat) (args : List Value) (h : H) : lookR (r :: l) f args h = bi (Nat.beq r.f f) (bi (Nat.beq r.next h.next) (bi (listEq (valEq 3) r.args args) (bi (preOk h r) (some r) (lookR l f args h)) (lookR l f args h)) (lookR l f args h)) (lookR l f args h) := rfl
theorem lookR_spec {f : Nat} {args : List Value} {h : H} {r : Run} : ∀ {l : List Run}, lookR l f args h = some r → r ∈ l ∧ r.f = f ∧ r.args = args ∧ PreOk h r := by
  intro l
  induction l with
  | nil => intro k; cases k
  | cons q l ih =>
    intro k
    have tl : lookR l f args h = some r → r ∈ q :: l ∧ r.f = f ∧ r.args = args ∧ PreOk h r := fun k => let ⟨h1, h2⟩ := ih k; ⟨List.mem_cons_of_mem _ h1, h2⟩
    rw [lookR_cons] at k
    cases h1 : Nat.beq q.f f
    · rw [h1] at k; exact tl k
    cases h2 : Nat.beq q.next h.next
    · rw [h1, h2] at k; exact tl k
    cases h3 : listEq (valEq 3) q.args args
    · rw [h1, h2, h3] at k; exact tl k
    cases h4 : preOk h q
    · rw [h1, h2, h3, h4] at k; exact tl k
    rw [h1, h2, h3, h4] at k
    injection k with k
    subst k
    exact ⟨List.mem_cons_self .., Nat.eq_of_beq_eq_true h1, listEq_eq (valEq_eq 3) h3, preOk_spec h2 h4⟩
/-- a run that is one, in whatever world stands for its memory -/
structure KRun [DenV] (P : Program) (r : Run) : Prop where
  chk : RunChk r
  body : ∃ fn b, P.funcs[r.f]? = some fn ∧ fn.body = some b
  run : ∀ (n0 : Nat) (ρ : Rho) (w : World) (args' : List Value), Sim P.globals.size n0 ρ (startR r) w → VRs ρ r.args args' →
    Calls P r.f ⟨args'⟩ w fun e w' => ∃ v', e = .returned v' ∧ Post P.globals.size n0 ρ (startR r) w (endR r) r.v v' w'
end Go.Ev
