/- A part of an evaluator of runs, and that it is right. -/
import Derived.Test.YtbkojaiecgdodaaDoorEvV
section
set_option linter.unusedVariables false
set_option linter.unusedSimpArgs false
set_option linter.unusedSectionVars false
open Go.RowKit
namespace Go.Ev
theorem okVL_VR [Den] {ρ : Rho} {l : List Value} (h : l.all (fun v => okV DenV.den v) = true) : VRs ρ l (l.map (dvs DenV.den)) := by
  induction l with
  | nil => exact .nil
  | cons v l ih =>
    simp only [List.all_cons, Bool.and_eq_true] at h
    exact .cons _ _ _ _ (okV_VR h.1) (ih h.2)
theorem VR_dvs1 [Den] {ρ : Rho} {v u : Value} (h : okv DenV.den v = true) (k : VR ρ v u) : u = dvs DenV.den v := by
  rw [okv_dvs h]
  unfold okv at h
  split at h
  · cases k with | sym c w hw hs => exact hw.symm
  · unfold flat1 at h
    split at h <;> first | (cases h; done) | (cases k; rfl) | (cases k with | func _ _ _ _ _ h1 h2 => cases h1; cases h2; rfl)
theorem VR_dvL [Den] {ρ : Rho} : ∀ {l m : List Value}, okL DenV.den l = true → VRs ρ l m → m = dvL DenV.den l := by
  intro l
  induction l with
  | nil => intro m _ k; cases k; rfl
  | cons v l ih =>
    intro m h k
    simp only [okL, List.all_cons, Bool.and_eq_true] at h
    cases k with
    | cons _ u _ m k1 k2 =>
      simp only [dvL]
      rw [VR_dvs1 h.1 k1, ih h.2 k2]
theorem VR_dvs [Den] {ρ : Rho} {v u : Value} (h : okV DenV.den v = true) (k : VR ρ v u) : u = dvs DenV.den v := by
  unfold okV at h
  split at h
  · cases k with | tuple _ _ k => simp only [dvs]; rw [VR_dvL h k]
  · cases k with | agg _ _ k => simp only [dvs]; rw [VR_dvL h k]
  · exact VR_dvs1 h k

/-- a run with open values, over tables that are only read -/
theorem noLow {n0 : Nat} {w : World} (h : n0 ≤ w.heap.size) : @LowOk noDen.toDenD.toDenV n0 w := @LowOk.mk noDen.toDenD.toDenV n0 w h (Nat.zero_le _) (fun k hk => absurd hk (Nat.not_lt_zero k))
theorem sym_run [Den] {P : Program} {eqs : List Nat} {clone : Sp} {w : World} (ok : Ok P eqs clone) {n f next : Nat} {l : List (Nat × List Value)} {args : List Value} {v : Value} (hn : P.globals.size ≤ next) (hw : P.globals.size ≤ w.heap.size) (h0 : LowOk w.heap.size w)
    (hl : ∀ p ∈ l, p.1 < P.globals.size ∧ flatL p.2 = true ∧ ∀ (o : Nat) (u : Value), p.2[o]? = some u → w.cell? ⟨p.1, o, none⟩ = some u)
    (ha : args.all (fun v => okV DenV.den v) = true) (hv : okV DenV.den v = true)
    (hr : om (callN (Env.of P eqs clone) n f args (roH next l)) Prod.fst = some v) :
    Calls P f ⟨args.map (dvs DenV.den)⟩ w fun e w' => e = .returned (dvs DenV.den v) ∧ Below w.heap.size w w' := by
  rw [om_some] at hr
  obtain ⟨⟨u, h'⟩, hc, hr⟩ := hr
  have hr : u = v := hr
  subst hr
  have hs := roSim (next := next) hn hw h0 (TabOk.of_flat hl)
  refine ((callN_ok ok (draw_ok ok) n f args (roH next l) _ h' hc).2 _ w _ hs (okVL_VR ha)).mono fun e w' ⟨v', he, ρ', s', st', hv'⟩ => ?_
  refine ⟨by rw [he, VR_dvs hv hv'], st'.os, st'.tape, st'.output, st'.size, fun B hB => st'.keep B hB ?_⟩
  rintro ⟨b, base, x, h1, h2, _⟩
  obtain ⟨p, _, _, e⟩ := roB_get h1
  subst e; cases h2

/-- values, and what is known of operations and calls -/
@[reducible] def denL (vals : List Value) (i : Nat) : Value := vals.getD i .nilFunc
@[reducible] def mkDen (W : World) (vals : List Value) (facts : List Fact) (calls : List CF) (ok : ∀ f ∈ facts, FactOk (denL vals) f) : Den := { den := denL vals, facts := facts, calls := calls, runs := [], low := W.heap.size, fix := fun k => W.heap[k]?, ok := ok }
/-- what stood in a world stands in another -/
structure Grow (W w : World) : Prop where
  size : W.heap.size ≤ w.heap.size
  block : ∀ k, k < W.heap.size → w.heap[k]? = W.heap[k]?
theorem Grow.cell {W w : World} (g : Grow W w) {p : Addr} (hp : p.block < W.heap.size) : w.cell? p = W.cell? p := World.cell?_of_block (w := W) (g.block p.block hp)
noncomputable def envF (P : Program) (eqs : List Nat) (clone : Sp) (facts : List Fact) (calls : List CF) : Env := @Env.of { den := fun _ => .nilFunc, low := 0, fix := fun _ => none, facts := facts, calls := calls, runs := [] } P eqs clone
/-- what is asked of the program, without calls that are known -/
structure Ok0 (P : Program) (eqs : List Nat) (clone : Sp) : Prop where
  eq : ∀ t, t ∈ eqs → EqOk P t
  names : NoName P
  clone : CloneOk P clone
  mixed : P.follows .mixedOrders = true
/-- a call that is known in the worlds that hold what W holds -/
structure Known (P : Program) (W : World) (vals : List Value) (c : CF) : Prop where
  body : ∃ fn b, P.funcs[c.f]? = some fn ∧ fn.body = some b
  args : ∀ v ∈ c.args, (caEq v v = true)
  val : okV (denL vals) c.v = true
  need : c.need = []
  call : ∀ w, Grow W w → Calls P c.f ⟨c.args.map (dvs (denL vals))⟩ w fun e w' => e = .returned (dvs (denL vals) c.v) ∧ Below w.heap.size w w'
theorem Known.ok {P : Program} {W : World} {vals : List Value} {facts : List Fact} {calls : List CF} {hf : ∀ f ∈ facts, FactOk (denL vals) f} {c : CF} (k : Known P W vals c) : @CFOk (mkDen W vals facts calls hf) P c :=
  @CFOk.mk (mkDen W vals facts calls hf) P c k.body k.args k.val (fun p hp => by rw [k.need] at hp; cases hp) (fun w _ h1 h2 _ => k.call w ⟨h1, h2⟩)
/-- a run with open values -/
theorem open_run {P : Program} {eqs : List Nat} {clone : Sp} {w : World} (ok : Ok0 P eqs clone) (vals : List Value) (facts : List Fact) (calls : List CF) (hf : ∀ f ∈ facts, FactOk (denL vals) f) (hk : ∀ c ∈ calls, Known P w vals c)
    {n f next : Nat} {l : List (Nat × List Value)} {args : List Value} {v : Value} (hn : P.globals.size ≤ next) (hw : P.globals.size ≤ w.heap.size)
    (hl : ∀ p ∈ l, p.1 < P.globals.size ∧ flatL p.2 = true ∧ ∀ (o : Nat) (u : Value), p.2[o]? = some u → w.cell? ⟨p.1, o, none⟩ = some u)
    (ha : args.all (fun v => okV (denL vals) v) = true) (hv : okV (denL vals) v = true)
    (hr : om (callN (envF P eqs clone facts calls) n f args (roH next l)) Prod.fst = some v) :
    Calls P f ⟨args.map (dvs (denL vals))⟩ w fun e w' => e = .returned (dvs (denL vals) v) ∧ Below w.heap.size w w' :=
  @sym_run (mkDen w vals facts calls hf) P eqs clone w (@Ok.mk (mkDen w vals facts calls hf) P eqs clone ok.eq ok.names ok.clone ok.mixed (fun c hc => (hk c hc).ok) (fun _ h => nomatch h) (fun _ h => nomatch h) (fun _ h => nomatch h) (fun _ _ _ _ _ _ _ _ h => nomatch h)) n f next l args v hn hw
    (@LowOk.mk (mkDen w vals facts calls hf).toDenD.toDenV w.heap.size w (Nat.le_refl _) (Nat.le_refl _) (fun _ _ => rfl)) hl ha hv hr
theorem known_nil {P : Program} {W : World} {vals : List Value} : ∀ c ∈ ([] : List CF), Known P W vals c := fun _ h => nomatch h
theorem known_cons {P : Program} {W : World} {vals : List Value} {c : CF} {l : List CF} (h : Known P W vals c) (k : ∀ g ∈ l, Known P W vals g) : ∀ g ∈ c :: l, Known P W vals g := by
  intro g hg
  rcases List.mem_cons.1 hg with rfl | hg
  · exact h
  · exact k g hg
/-- rows of one's own, one by one -/
noncomputable def rowsH (h : H) : List (List Value) → H
  | [] => h
  | r :: l => rowsH (newCells h r) l
theorem rows_sim [Den] {ng n0 : Nat} {w : World} : ∀ (L : List (Nat × TypeId × List Value)) (ρ : Rho) (h : H), Sim ng n0 ρ h w →
    (∀ x ∈ L, n0 ≤ x.1 ∧ w.heap[x.1]? = some (.cells ⟨x.2.2⟩ x.2.1) ∧ flatL x.2.2 = true) → L.Pairwise (fun x y => x.1 ≠ y.1) → (∀ x ∈ L, ∀ i base, ρ i = some (x.1, base) → False) →
    ∃ ρ', Sim ng n0 ρ' (rowsH h (L.map fun x => x.2.2)) w ∧ Le ρ ρ' ∧ ∀ (k : Nat) (x : Nat × TypeId × List Value), L[k]? = some x → ρ' (h.next + k) = some (x.1, 0) := by
  intro L
  induction L with
  | nil => intro ρ h s _ _ _; exact ⟨ρ, s, Le.refl _, fun k x hk => by simp at hk⟩
  | cons x L ih =>
    intro ρ h s hL hp hn
    obtain ⟨h1, h2, h3⟩ := hL x (List.mem_cons_self ..)
    have hid := s.next_none
    have hni := hn x (List.mem_cons_self ..)
    have s1 := s.add_cells (next := Nat.succ h.next) hid (Nat.le_succ _) (Nat.lt_succ_self _) h1 h2 (vs' := x.2.2) (fun i v hv => by simpa using hv) (fun i base e => hni i base e) (flatL_VR h3)
    have L1 := upd_le hid x.1 0 (⟨x.2.2⟩ : Array Value).size (fun i b hi => (hni i b hi).elim)
    have hp' := List.pairwise_cons.1 hp
    obtain ⟨ρ', s2, L2, k2⟩ := ih _ _ s1 (fun y hy => hL y (List.mem_cons_of_mem _ hy)) hp'.2 (fun y hy i base hi => by
      by_cases e : i = h.next
      · rw [e, upd_same] at hi; injection hi with hi; injection hi with e1 _; exact hp'.1 y hy e1
      · rw [upd_ne e] at hi; exact hn y (List.mem_cons_of_mem _ hy) i base hi)
    refine ⟨ρ', s2, L1.trans L2, fun k y hk => ?_⟩
    cases k with
    | zero => simp at hk; subst hk; exact L2.get _ _ (upd_same _ _ _ _ _)
    | succ k =>
      have := k2 k y (by simpa using hk)
      rw [show h.next + (k + 1) = Nat.succ h.next + k by omega]
      exact this
/-- a row as a slice -/
def sliceR (B : Nat) (l : List Value) : Value := .slice (some ⟨B, 0, none⟩) l.length l.length
theorem sliceR_VR [Den] {ρ : Rho} {id B : Nat} {l : List Value} (h : ρ id = some (B, 0)) (hl : l.length < capU) : VR ρ (sliceR id l) (sliceR B l) :=
  .slice id 0 l.length l.length B 0 l.length h (Or.inr ⟨rfl, hl⟩) (Nat.le_refl _)
/-- a closed run over tables and rows that answers true -/
theorem rows_true {P : Program} {eqs : List Nat} {clone : Sp} {n f : Nat} {W w : World} {l : List (Nat × List Value)} {L : List (Nat × TypeId × List Value)} {args args' : List Value} (ok : @Ok noDen P eqs clone)
    (hw : P.globals.size ≤ W.heap.size) (hb : Below W.heap.size W w)
    (hl : ∀ p ∈ l, p.1 < P.globals.size ∧ flatL p.2 = true ∧ ∀ (o : Nat) (u : Value), p.2[o]? = some u → W.cell? ⟨p.1, o, none⟩ = some u)
    (hL : ∀ x ∈ L, W.heap.size ≤ x.1 ∧ w.heap[x.1]? = some (.cells ⟨x.2.2⟩ x.2.1) ∧ flatL x.2.2 = true) (hp : L.Pairwise (fun x y => x.1 ≠ y.1))
    (ha : ∀ ρ : Rho, (∀ (k : Nat) (x : Nat × TypeId × List Value), L[k]? = some x → ρ (P.globals.size + k) = some (x.1, 0)) → @VRs noDen.toDenD.toDenV ρ args args')
    (hr : isT (callN (envF P eqs clone [] []) n f args (rowsH (roH P.globals.size l) (L.map fun x => x.2.2))) = true) :
    Calls P f ⟨args'⟩ w fun e w' => e = .returned (.bool true) ∧ Below W.heap.size W w' := by
  letI : Den := noDen
  cases hc : callN (Env.of P eqs clone) n f args (rowsH (roH P.globals.size l) (L.map fun x => x.2.2)) with
  | none =>
    have hr : isT (callN (Env.of P eqs clone) n f args (rowsH (roH P.globals.size l) (L.map fun x => x.2.2))) = true := hr
    rw [hc] at hr; cases hr
  | some r =>
    obtain ⟨v, h'⟩ := r
    have hr : isT (callN (Env.of P eqs clone) n f args (rowsH (roH P.globals.size l) (L.map fun x => x.2.2))) = true := hr
    rw [hc] at hr
    have hv : v = .bool true := by
      unfold isT at hr
      split at hr
      · rename_i hxy; injection hxy with hxy; injection hxy
      · cases hr
    subst hv
    have cells : ∀ p ∈ l, p.1 < P.globals.size ∧ flatL p.2 = true ∧ ∀ (o : Nat) (u : Value), p.2[o]? = some u → w.cell? ⟨p.1, o, none⟩ = some u := fun p hp => by
      obtain ⟨h1, h2, h3⟩ := hl p hp
      exact ⟨h1, h2, fun o u hu => by rw [hb.cell (p := ⟨p.1, o, none⟩) (Nat.lt_of_lt_of_le h1 hw)]; exact h3 o u hu⟩
    have hs := roSimN (ow := fun _ => none) (P := P) (w := w) (next := P.globals.size) (n0 := W.heap.size) (Nat.le_refl _) hw (noLow hb.size) (TabOk.of_flat cells)
    obtain ⟨ρ', s', _, hk⟩ := rows_sim L _ _ hs hL hp (fun x hx i base hi => by
      have := (hL x hx).1
      have hi : (if i < P.globals.size then some (i, 0) else none) = some (x.1, base) := hi
      split at hi
      · injection hi with hi; injection hi with e1 _; omega
      · cases hi)
    refine ((callN_ok ok (draw_ok ok) n f args _ _ h' hc).2 ρ' w args' s' (ha ρ' hk)).mono fun e w' ⟨v', he, ρ2, s2, st2, hv2⟩ => ?_
    subst he
    refine ⟨by cases hv2; rfl, hb.trans ⟨st2.os, st2.tape, st2.output, st2.size, fun B hB => ?_⟩⟩
    refine st2.keep B (Nat.lt_of_lt_of_le hB hb.size) fun hi => ?_
    have := img_low s' hi
    omega
-- facts, by the operation
section
variable {den : Nat → Value} {a b : Value} {k k' : IntKind} {x y z : Int} {c : Nat}
theorem fb (op : BinOp) (r : Bool) (ha : dv den a = .int k x) (hb : dv den b = .int k y) (h : intBin op k x y = some (.bool r)) : FactOk den ⟨bcode op, a, b, .bool r⟩ :=
  .bin op a b _ k k x y ha hb (Or.inr rfl) rfl h
theorem f_eq (ha : dv den a = .int k x) (hb : dv den b = .int k y) (h : x = y) : FactOk den ⟨5, a, b, .bool true⟩ := fb .eql true ha hb (by simp [intBin, ieq_eq, h])
theorem f_eq' (ha : dv den a = .int k x) (hb : dv den b = .int k y) (h : ¬ x = y) : FactOk den ⟨5, a, b, .bool false⟩ := fb .eql false ha hb (by simp [intBin, ieq_eq, h])
theorem f_ne (ha : dv den a = .int k x) (hb : dv den b = .int k y) (h : ¬ x = y) : FactOk den ⟨6, a, b, .bool true⟩ := fb .neq true ha hb (by simp [intBin, ieq_eq, bnot_eq, h])
theorem f_ne' (ha : dv den a = .int k x) (hb : dv den b = .int k y) (h : x = y) : FactOk den ⟨6, a, b, .bool false⟩ := fb .neq false ha hb (by simp [intBin, ieq_eq, bnot_eq, h])
theorem f_lt (ha : dv den a = .int k x) (hb : dv den b = .int k y) (h : x < y) : FactOk den ⟨7, a, b, .bool true⟩ := fb .lss true ha hb (by simp [intBin, ile_eq, bnot_eq]; omega)
theorem f_lt' (ha : dv den a = .int k x) (hb : dv den b = .int k y) (h : ¬ x < y) : FactOk den ⟨7, a, b, .bool false⟩ := fb .lss false ha hb (by simp [intBin, ile_eq, bnot_eq]; omega)
theorem f_le (ha : dv den a = .int k x) (hb : dv den b = .int k y) (h : x ≤ y) : FactOk den ⟨8, a, b, .bool true⟩ := fb .leq true ha hb (by simp [intBin, ile_eq]; omega)
theorem f_le' (ha : dv den a = .int k x) (hb : dv den b = .int k y) (h : ¬ x ≤ y) : FactOk den ⟨8, a, b, .bool false⟩ := fb .leq false ha hb (by simp [intBin, ile_eq]; omega)
theorem f_gt (ha : dv den a = .int k x) (hb : dv den b = .int k y) (h : y < x) : FactOk den ⟨9, a, b, .bool true⟩ := fb .gtr true ha hb (by simp [intBin, ile_eq, bnot_eq]; omega)
theorem f_gt' (ha : dv den a = .int k x) (hb : dv den b = .int k y) (h : ¬ y < x) : FactOk den ⟨9, a, b, .bool false⟩ := fb .gtr false ha hb (by simp [intBin, ile_eq, bnot_eq]; omega)
theorem f_ge (ha : dv den a = .int k x) (hb : dv den b = .int k y) (h : y ≤ x) : FactOk den ⟨10, a, b, .bool true⟩ := fb .geq true ha hb (by simp [intBin, ile_eq]; omega)
theorem f_ge' (ha : dv den a = .int k x) (hb : dv den b = .int k y) (h : ¬ y ≤ x) : FactOk den ⟨10, a, b, .bool false⟩ := fb .geq false ha hb (by simp [intBin, ile_eq]; omega)
theorem f_ar (op : BinOp) (hk : isSh op = true ∨ k = k') (ha : dv den a = .int k x) (hb : dv den b = .int k' y) (hc : den c = .int k z) (h : intBin op k x y = some (.int k z)) : FactOk den ⟨bcode op, a, b, .float .f64 c⟩ :=
  .bin op a b _ k k' x y ha hb hk (by show scal1 (den c) = true; rw [hc]; rfl) (by show intBin op k x y = some (den c); rw [hc, h])
theorem f_add (ha : dv den a = .int k x) (hb : dv den b = .int k y) (hc : den c = .int k (k.wrap (x + y))) : FactOk den ⟨0, a, b, .float .f64 c⟩ := f_ar .add (Or.inr rfl) ha hb hc (by simp only [intBin, wrapF_eq]; rfl)
theorem f_sub (ha : dv den a = .int k x) (hb : dv den b = .int k y) (hc : den c = .int k (k.wrap (x - y))) : FactOk den ⟨1, a, b, .float .f64 c⟩ := f_ar .sub (Or.inr rfl) ha hb hc (by simp only [intBin, wrapF_eq]; rfl)
theorem f_mul (ha : dv den a = .int k x) (hb : dv den b = .int k y) (hc : den c = .int k (k.wrap (x * y))) : FactOk den ⟨2, a, b, .float .f64 c⟩ := f_ar .mul (Or.inr rfl) ha hb hc (by simp only [intBin, wrapF_eq]; rfl)
theorem f_quo (ha : dv den a = .int k x) (hb : dv den b = .int k y) (hc : den c = .int k (k.wrap (x.tdiv y))) (h : ¬ y = 0) : FactOk den ⟨3, a, b, .float .f64 c⟩ := f_ar .quo (Or.inr rfl) ha hb hc (by
  have : ieq y 0 = false := by rw [ieq_eq]; simpa using h
  simp only [intBin, wrapF_eq, this, bi_false])
theorem f_rem (ha : dv den a = .int k x) (hb : dv den b = .int k y) (hc : den c = .int k (x.tmod y)) (h : ¬ y = 0) : FactOk den ⟨4, a, b, .float .f64 c⟩ := f_ar .rem (Or.inr rfl) ha hb hc (by
  have : ieq y 0 = false := by rw [ieq_eq]; simpa using h
  simp only [intBin, this, bi_false])
/-- the bits of two numbers -/
noncomputable def bitV (op : BinOp) (k : IntKind) (x y : Int) : Int := match intBin op k x y with
  | some (.int _ z) => z
  | _ => 0
theorem f_and (ha : dv den a = .int k x) (hb : dv den b = .int k y) (hc : den c = .int k (bitV .and k x y)) : FactOk den ⟨11, a, b, .float .f64 c⟩ := f_ar .and (Or.inr rfl) ha hb hc rfl
theorem f_or (ha : dv den a = .int k x) (hb : dv den b = .int k y) (hc : den c = .int k (bitV .or k x y)) : FactOk den ⟨12, a, b, .float .f64 c⟩ := f_ar .or (Or.inr rfl) ha hb hc rfl
theorem f_xor (ha : dv den a = .int k x) (hb : dv den b = .int k y) (hc : den c = .int k (bitV .xor k x y)) : FactOk den ⟨13, a, b, .float .f64 c⟩ := f_ar .xor (Or.inr rfl) ha hb hc rfl
theorem f_andn (ha : dv den a = .int k x) (hb : dv den b = .int k y) (hc : den c = .int k (bitV .andNot k x y)) : FactOk den ⟨14, a, b, .float .f64 c⟩ := f_ar .andNot (Or.inr rfl) ha hb hc rfl
theorem f_shl (ha : dv den a = .int k x) (hb : dv den b = .int k' y) (hc : den c = .int k (k.wrap (x * 2 ^ (min y.toNat k.bits)))) (h : 0 ≤ y) : FactOk den ⟨15, a, b, .float .f64 c⟩ := f_ar .shl (Or.inl rfl) ha hb hc (by
  have : ile 0 y = true := ile_iff.2 h
  simp only [intBin, this, bi_true])
theorem f_shr (ha : dv den a = .int k x) (hb : dv den b = .int k' y) (hc : den c = .int k (x.fdiv (2 ^ (min y.toNat k.bits)))) (h : 0 ≤ y) : FactOk den ⟨16, a, b, .float .f64 c⟩ := f_ar .shr (Or.inl rfl) ha hb hc (by
  have : ile 0 y = true := ile_iff.2 h
  simp only [intBin, this, bi_true])
theorem f_neg (ha : dv den a = .int k x) (hc : den c = .int k (k.wrap (0 - x))) : FactOk den ⟨17, a, .bool true, .float .f64 c⟩ :=
  .neg a _ k x ha (by show scal1 (den c) = true; rw [hc]; rfl) hc
theorem f_com (ha : dv den a = .int k x) (hc : den c = .int k (bitV .xor k (if k.signed then -1 else k.max) x)) : FactOk den ⟨18, a, .bool true, .float .f64 c⟩ :=
  .com a _ k x ha (by show scal1 (den c) = true; rw [hc]; rfl) (by show _ = some (den c); rw [hc]; rfl)
theorem f_conv (k : IntKind) {k0 : IntKind} (ha : dv den a = .int k0 x) (hc : den c = .int k (k.wrap x)) : FactOk den ⟨kcode k, a, .bool true, .float .f64 c⟩ :=
  .conv k a _ k0 x ha (by show scal1 (den c) = true; rw [hc]; rfl) hc
/-- one string behind another -/
theorem f_cat {x y : List UInt8} (ha : dv den a = .string ⟨⟨x⟩⟩) (hb : dv den b = .string ⟨⟨y⟩⟩) (hc : den c = .string ⟨⟨x ++ y⟩⟩) (hl : x.length + y.length ≤ 1000000) : FactOk den ⟨0, a, b, .float .f64 c⟩ :=
  .cat a b _ _ _ ha hb (by show scal1 (den c) = true; rw [hc]; rfl) (by
    show strBin .add x y = some (den c)
    rw [hc]
    simp only [strBin]
    rw [show Nat.ble (x.length + y.length) 1000000 = true from Nat.ble_eq_true_of_le hl, bi_true])
/-- of two numbers that are known -/
theorem f_pt (op : BinOp) {v : Value} {x0 y0 : Int} (hk : isSh op = true ∨ k = k') (ha : dv den a = .int k x) (hb : dv den b = .int k' y) (hx : x = x0) (hy : y = y0) (hv : flat1 v = true) (h : intBin op k x0 y0 = some v) : FactOk den ⟨bcode op, a, b, v⟩ := by
  subst hx; subst hy
  refine .bin op a b v k k' x y ha hb hk ?_ ?_
  · unfold okv; split
    · cases hv
    · exact hv
  · unfold dv; split
    · cases hv
    · exact h
/-- all of a list, one by one -/
theorem all_nil {den : Nat → Value} : ∀ f ∈ ([] : List Fact), FactOk den f := fun _ h => nomatch h
theorem all_cons {den : Nat → Value} {f : Fact} {l : List Fact} (h : FactOk den f) (k : ∀ g ∈ l, FactOk den g) : ∀ g ∈ f :: l, FactOk den g := by
  intro g hg
  rcases List.mem_cons.1 hg with rfl | hg
  · exact h
  · exact k g hg
end
end Go.Ev
end
section
set_option linter.unusedVariables false
set_option linter.unusedSimpArgs false
set_option linter.unusedSectionVars false
open Go.RowKit
namespace Go.Ev
/-- a run leaves what is said of it -/
noncomputable def endOk (h : H) (r : Run) : Bool :=
  bi (Nat.ble h.next r.next') (bi (List.all r.post fun p => match h.bl.get p.1 with | some x => blkEq x p.2 | none => false)
    (List.all r.mem' fun p => match h.mem.get p.1 with | some l => listEq Nat.beq l p.2 | none => false) false) false
noncomputable def chkRun (E : Env) (n : Nat) (r : Run) : Bool := match callN E n r.f r.args (startR r) with
  | some p => bi (valEq 3 p.1 r.v) (bi (endOk p.2 r) (runChk r) false) false
  | none => false
structure EndOk (h : H) (r : Run) : Prop where
  next : h.next ≤ r.next'
  bl : ∀ b x, (b, x) ∈ r.post → h.bl.get b = some x
  mem : ∀ c l, (c, l) ∈ r.mem' → h.mem.get c = some l
theorem endOk_spec {h : H} {r : Run} (k : endOk h r = true) : EndOk h r := by
  unfold endOk at k
  rw [bi_tf, bi_tf, List.all_eq_true, List.all_eq_true] at k
  obtain ⟨h1, h2, h3⟩ := k
  refine ⟨Nat.le_of_ble_eq_true h1, fun b x hx => ?_, fun c l hl => ?_⟩
  · have := h2 _ hx
    split at this
    · rename_i y hy; rw [hy, blkEq_eq this]
    · cases this
  · have := h3 _ hl
    split at this
    · rename_i y hy; rw [hy, listEq_eq natBeq_eq this]
    · cases this
section
variable [Den] {P : Program} {eqs : List Nat} {clone : Sp} {ng n0 : Nat} {ρ ρ' : Rho} {h h' : H} {w w' : World} {r : Run}
theorem end_bl (k : EndOk h r) {b : Nat} {x : Blk} (hb : (endR r).bl.get b = some x) : h.bl.get b = some x := by
  rcases setP_get hb with h1 | ⟨_, h1⟩
  · exact k.bl _ _ h1
  · cases h1
theorem end_mem (k : EndOk h r) {c : Nat} {l : List Nat} (hc : (endR r).mem.get c = some l) : h.mem.get c = some l := by
  rcases setP_get hc with h1 | ⟨_, h1⟩
  · exact k.mem _ _ h1
  · cases h1
theorem Sim.ended (s : Sim ng n0 ρ h w) (k : EndOk h r) : Sim ng n0 ρ (endR r) w := by
  have g : ∀ {b : Nat} {x : Blk}, (endR r).bl.get b = some x → h.bl.get b = some x := fun hb => end_bl k hb
  exact ⟨fun i q hi => Nat.lt_of_lt_of_le (s.born i q hi) k.next, s.inh, fun b t c B base hb => s.rows b t c B base (g hb), s.glob, s.lowOk, fun b t c hb => s.cells b t c (g hb), fun b t hb => s.ro b t (g hb), fun b es n hb => s.maps b es n (g hb), fun b m a sn st hb => s.iters b m a sn st (g hb), fun b x hb => s.objs b x (g hb),
    fun b t c b' t' c' B base base' hb hb' => s.cls b t c b' t' c' B base base' (g hb) (g hb'), fun b t c l hb hl => s.mem b t c l (g hb) (end_mem k hl), fun b t c hb => s.clsb b t c (g hb), fun b x b' x' B base base' hb hb' => s.inj b x b' x' B base base' (g hb) (g hb')⟩
theorem Step.ended (st : Step ρ h w ρ' h' w') (k : EndOk h' r) : Step ρ h w ρ' (endR r) w' :=
  ⟨st.ext, st.fresh, Nat.le_trans st.next k.next, st.os, st.tape, st.output, st.size, st.keep, fun B ⟨b, base, x, h1, h2, h3⟩ => st.img B ⟨b, base, x, end_bl k h1, h2, h3⟩⟩
theorem KRun.of (ok : Ok P eqs clone) {n : Nat} (hb : ∃ fn b, P.funcs[r.f]? = some fn ∧ fn.body = some b) (hc : chkRun (Env.of P eqs clone) n r = true) : KRun P r := by
  unfold chkRun at hc
  split at hc
  · rename_i p hp
    obtain ⟨v, h'⟩ := p
    rw [bi_tf, bi_tf] at hc
    obtain ⟨h1, h2, h3⟩ := hc
    have e := valEq_eq 3 _ _ h1
    have e : v = r.v := e
    subst e
    have k := endOk_spec h2
    refine ⟨runChk_spec h3, hb, fun n0 ρ w args' s hv => ?_⟩
    refine ((callN_ok ok (draw_ok ok) n r.f r.args (startR r) _ h' hp).2 ρ w args' s hv).mono fun e w' ⟨v', he, ρ', s', st', hv'⟩ => ?_
    exact ⟨v', he, ρ', s'.ended k, st'.ended k, hv'⟩
  · cases hc
end
/-- closed runs, some of which are known; den: what stands in tables that are not looked at -/
@[reducible] def denR (den : Nat → Value) (runs : List Run) : Den := { den := den, low := 0, fix := fun _ => none, facts := [], calls := [], runs := runs, ok := fun _ h => nomatch h }
noncomputable def envR (P : Program) (eqs : List Nat) (clone : Sp) (runs : List Run) : Env := @Env.of (denR (fun _ => .nilFunc) runs).toDenD P eqs clone
@[reducible] def denG (den : Nat → Value) : DenV := { den := den, low := 0, fix := fun _ => none }
/-- a run that is known, whatever stands in such tables -/
def KRunA (P : Program) (r : Run) : Prop := ∀ den, @KRun (denG den) P r
theorem okR {P : Program} {eqs : List Nat} {clone : Sp} (ok : Ok0 P eqs clone) (den : Nat → Value) (runs : List Run) (h : ∀ r ∈ runs, KRunA P r) : @Ok (denR den runs) P eqs clone :=
  @Ok.mk (denR den runs) P eqs clone ok.eq ok.names ok.clone ok.mixed (fun _ h => nomatch h) (fun _ h => nomatch h) (fun _ h => nomatch h) (fun r hr => h r hr den) (fun _ _ _ _ _ _ _ _ h => nomatch h)
theorem run_known {P : Program} {eqs : List Nat} {clone : Sp} (ok : Ok0 P eqs clone) {runs : List Run} (h : ∀ r ∈ runs, KRunA P r) {n : Nat} {r : Run} (hb : ∃ fn b, P.funcs[r.f]? = some fn ∧ fn.body = some b)
    (hc : chkRun (envR P eqs clone runs) n r = true) : KRunA P r := fun den => @KRun.of (denR den runs) P eqs clone r (okR ok den runs h) n hb hc
theorem runs_nil {P : Program} : ∀ r ∈ ([] : List Run), KRunA P r := fun _ h => nomatch h
theorem runs_cons {P : Program} {r : Run} {l : List Run} (h : KRunA P r) (k : ∀ g ∈ l, KRunA P g) : ∀ g ∈ r :: l, KRunA P g := by
  intro g hg
  rcases List.mem_cons.1 hg with rfl | hg
  · exact h
  · exact k g hg
/-- a closed run over tables that answers true, by runs that are known -/
theorem true_runG {P : Program} {eqs : List Nat} {clone : Sp} {n f : Nat} {W : World} {l : List (Nat × List Value)} {runs : List Run} (den : Nat → Value) (ok : Ok0 P eqs clone) (h : ∀ r ∈ runs, KRunA P r)
    (hw : P.globals.size ≤ W.heap.size) (hl : @TabOk (denR den runs) P W l)
    (hr : isT (callN (envR P eqs clone runs) n f [] (roH P.globals.size l)) = true) : Calls P f #[] W fun e w' => e = .returned (.bool true) ∧ Below W.heap.size W w' :=
  @run_true (denR den runs) P eqs clone W (okR ok den runs h) n f P.globals.size l (Nat.le_refl _) hw (@LowOk.mk (denR den runs).toDenD.toDenV _ W (Nat.le_refl _) (Nat.zero_le _) (fun k hk => absurd hk (Nat.not_lt_zero k))) hl hr
theorem true_run {P : Program} {eqs : List Nat} {clone : Sp} {n f : Nat} {W : World} {l : List (Nat × List Value)} {runs : List Run} (ok : Ok0 P eqs clone) (h : ∀ r ∈ runs, KRunA P r)
    (hw : P.globals.size ≤ W.heap.size) (hl : ∀ p ∈ l, p.1 < P.globals.size ∧ flatL p.2 = true ∧ ∀ (o : Nat) (u : Value), p.2[o]? = some u → W.cell? ⟨p.1, o, none⟩ = some u)
    (hr : isT (callN (envR P eqs clone runs) n f [] (roH P.globals.size l)) = true) : Calls P f #[] W fun e w' => e = .returned (.bool true) ∧ Below W.heap.size W w' :=
  true_runG (fun _ => .nilFunc) ok h hw (@TabOk.of_flat (denR (fun _ => .nilFunc) runs) P W l hl) hr
end Go.Ev
end
