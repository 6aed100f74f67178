/- A part of an evaluator of runs, and that it is right. -/
import Derived.Test.YtbkojaiecgdodaaDoorEvZ
import Derived.Below
import Derived.RangeFuncRecord
import Derived.OrdersIn
set_option linter.unusedVariables false
set_option linter.unusedSimpArgs false
set_option linter.unusedSectionVars false
open Go.RowKit
namespace Go.Ev
variable [Den]
section
variable {P : Program} {eqs : List Nat} {clone : Sp} {n0 ng : Nat} {ρ : Rho} {h : H} {α : A} {a : Act} {w w' : World}

theorem range_zero (zs : Array Value) : ∀ n : Nat, ((Array.range (n * zs.size)).map fun i => zs[i % zs.size]!).toList = (List.replicate n zs.toList).flatten := by
  intro n
  rw [Array.toList_map, Array.toList_range]
  induction n with
  | zero => simp
  | succ n ih =>
    rw [Nat.add_mul, Nat.one_mul, Nat.add_comm, List.range_add, List.map_append, List.replicate_succ, List.flatten_cons, List.map_map]
    congr 1
    · apply List.ext_getElem?
      intro i
      by_cases hi : i < zs.size
      · simp [hi, Nat.mod_eq_of_lt hi]
      · simp [hi]
    · rw [← ih]
      apply List.map_congr_left
      intro i _
      simp

/-- a row that is made -/
def Made (P : Program) (s : Sem Value) (ρ : Rho) (row : List Value) (n : Option (Nat × Nat)) (w : World) : Prop :=
  ∃ row' el, VRs ρ row row' ∧ (∀ k, n = some k → k.1 ≤ k.2 ∧ k.2 < capU) ∧
    s.run P w = .ok (mkA w.heap.size n) { w with heap := w.heap.push (.cells ⟨row'⟩ el) }

theorem mkA_none (b : Nat) : mkA b none = .pointer (some ⟨b, 0, none⟩) := rfl
theorem mkA_some (b k m : Nat) : mkA b (some (k, m)) = .slice (some ⟨b, 0, none⟩) k m := rfl
theorem toList_cells (v : Value) : v.cells = ⟨v.cells.toList⟩ := rfl

theorem fl_zero {z : Value} {n : Nat} : (⟨(List.replicate n z.cells.toList).flatten⟩ : Array Value) = (Array.range (n * z.cells.size)).map fun i => z.cells[i % z.cells.size]! := by
  apply Array.ext'
  rw [range_zero]
theorem vcells_flat {z : Value} : vcells z = z.cells.toList := by cases z <;> rfl

theorem alloc_sound (c : Ctx P eqs ρ α a) {o : Oper} {row : List Value} {n : Option (Nat × Nat)} (hl : allocE o.op (Env.of P eqs clone) α = some (row, n)) :
    ∃ s, execOp a.eval o = (do pure (.value (← s))) ∧ Made P s ρ row n w := by
  obtain ⟨dst, op, type, pos, after, guard⟩ := o
  cases op <;> simp only [allocE] at hl <;> first | (cases hl; done) | skip
  case alloc t =>
    unfold aAlloc at hl
    rw [om_some] at hl
    obtain ⟨z, hz, hl⟩ := hl
    injection hl with e1 e2; subst e1; subst e2
    obtain ⟨h1, h2⟩ := zeroOf_sound (w := w) hz
    refine ⟨_, rfl, z.cells.toList, t, h2.vcells, by simp, ?_⟩
    simp only [Instr.alloc, Sem.run_bind, h1, Result.andThen_ok, newVar, newRow, run_newObj, Sem.run_pure, mkA_none]
  case box t x =>
    unfold aBox at hl
    rw [om_some] at hl
    obtain ⟨z, hz, hl⟩ := hl
    injection hl with e1 e2; subst e1; subst e2
    refine ⟨_, rfl, (a.eval x).cells.toList, t, (c.opv hz).vcells, by simp, ?_⟩
    simp only [Instr.box, Sem.run_bind, Result.andThen_ok, newVar, newRow, run_newObj, Sem.run_pure, mkA_none]
  case buildSlice t len ps =>
    unfold aSlice at hl
    rw [ob_some] at hl
    obtain ⟨r, hr, hl⟩ := hl
    rw [ob_some] at hl
    obtain ⟨qs, hqs, hl⟩ := hl
    obtain ⟨h1, h2⟩ := parts_sound c hqs
    split at hl
    · rename_i e hty
      rw [ob_some] at hl
      obtain ⟨re, hre, hl⟩ := hl
      rw [ob_some] at hl
      obtain ⟨z, hz, hl⟩ := hl
      rw [bi_some_none, bi_some_none, bi_none_some, bi_none_some, om_some] at hl
      obtain ⟨hf, hzs, hsm, hsm2, l, hl, he⟩ := hl
      injection he with e1 e2; subst e1; subst e2
      have hzs := Nat.eq_of_beq_eq_true hzs
      have hsm : len * re.size < 1000000 := by rw [← Bool.not_eq_true, Nat.ble_eq] at hsm; omega
      have hsm2 : len < 1000000 := by rw [← Bool.not_eq_true, Nat.ble_eq] at hsm2; omega
      have hzc : z.cells.size = re.size := by rw [← hzs, vcells_flat, Array.length_toList]
      have hz0 := (flat_VR (ρ := ρ) hf).vcells.flatten_replicate len
      rw [show (List.replicate len z.cells.toList).flatten = ((⟨(List.replicate len z.cells.toList).flatten⟩ : Array Value)).toList from rfl] at hz0
      obtain ⟨l', h3, h4⟩ := fill_sound _ (fun i => some (i * re.size, re.size)) (fun i q h => h) _ _ h1 h2 _ _ _ hz0 hl
      refine ⟨_, rfl, l', e, h4, fun k hk => by injection hk with hk; subst hk; unfold capU; exact ⟨Nat.le_refl _, by simp only; omega⟩, ?_⟩
      have hps : (ps.map fun (i, x) => (i, a.eval x)).toList = ps.toList.map fun p => (p.1, a.eval p.2) := by simp
      have hb : ¬ len * re.size > 2 ^ 24 := by
        have : (2 : Nat) ^ 24 = 16777216 := rfl
        omega
      have hfl : Instr.fill (fun i => some (i * re.size, re.size)) ((Array.range (len * re.size)).map fun i => z.cells[i % z.cells.size]!) (ps.map fun (i, x) => (i, a.eval x)).toList = some ⟨l'⟩ := by
        rw [← hzc, ← fl_zero, hps]
        rw [hzc]; exact h3
      by_cases h0 : len * re.size = 0
      · have hm0 : ∀ f : Nat → Value, (Array.range 0).map f = #[] := fun f => by simp
        have hfl0 : Instr.fill (fun i => some (i * re.size, re.size)) #[] (ps.map fun (i, x) => (i, a.eval x)).toList = some ⟨l'⟩ := by
          rw [← hfl, h0, hm0]
        have hb0 : ¬ ((0 : Nat) > 2 ^ 24) := by simp
        simp only [Instr.buildSlice, Sem.run_bind, run_under hr, hty, Result.andThen_ok, run_size hre, h0, hb0, if_false, if_true, Sem.run_pure, hm0, hfl0, newRow, run_newObj, mkA_some]
      · simp only [Instr.buildSlice, Sem.run_bind, run_under hr, hty, Result.andThen_ok, run_size hre, hb, if_false, h0, Sem.run_pure, run_zero hre hz, hfl, newRow, run_newObj, mkA_some]
    · cases hl
  case makeSlice t x y =>
    unfold aMake at hl
    rw [ob_some] at hl
    obtain ⟨lv, hlv0, hl⟩ := hl
    rw [ob_some] at hl
    obtain ⟨cv, hcv0, hl⟩ := hl
    rw [ob_some] at hl
    obtain ⟨r, hr, hl⟩ := hl
    have hlv := c.opv hlv0
    have hcv := c.opv hcv0
    clear hlv0 hcv0
    split at hl
    · rename_i e k1 l k2 m hty
      rw [ob_some] at hl
      obtain ⟨re, hre, hl⟩ := hl
      rw [ob_some] at hl
      obtain ⟨z, hz, hl⟩ := hl
      rw [bi_some_none, bi_some_none, bi_some_none, bi_none_some, bi_none_some] at hl
      obtain ⟨hf, hzs, hlm, hby, hsm, hl⟩ := hl
      injection hl with hl; injection hl with e1 e2; subst e1; subst e2
      have hlm : l ≤ m := by simpa using hlm
      have hzs := Nat.eq_of_beq_eq_true hzs
      have hby : re.bytes < 1000000 := by rw [← Bool.not_eq_true, Nat.ble_eq] at hby; omega
      have hsm : m < 1000000 := by rw [← Bool.not_eq_true, Nat.ble_eq] at hsm; omega
      have hzc : z.cells.size = re.size := by rw [← hzs, vcells_flat, Array.length_toList]
      refine ⟨_, rfl, (List.replicate m z.cells.toList).flatten, e, ?_, fun k hk => by injection hk with hk; subst hk; unfold capU; exact ⟨hlm, by simp only; omega⟩, ?_⟩
      · exact (flat_VR (ρ := ρ) hf).vcells.flatten_replicate m
      · generalize a.eval x = ex at *
        generalize a.eval y = ey at *
        cases hlv; cases hcv
        obtain ⟨ie, hi1, _, hi2, hi3, hi4⟩ := ty_spec hre
        have hinfo : ∀ w, (typeInfo e).run P w = .ok ie w := fun w => by simp [typeInfo, hi1]
        have hw : IntKind.i64.wrap (l : Int) = l := IntWalk.i64_in _ (by omega)
        have hw2 : IntKind.i64.wrap (m : Int) = m := IntWalk.i64_in _ (by omega)
        have h1 : ¬ ((ie.bytes : Int) * m > 2 ^ 48) := by
          have h2 : ie.bytes * m ≤ 1000000 * 1000000 := Nat.mul_le_mul (by omega) (by omega)
          have h3 : ((ie.bytes * m : Nat) : Int) ≤ 1000000000000 := by omega
          rw [Int.natCast_mul] at h3
          have : (2 : Int) ^ 48 = 281474976710656 := rfl
          omega
        have h4 : ¬ ((l : Int) < 0) := by omega
        have h4b : ¬ ((m : Int) < 0) := by omega
        have h4c : ¬ ((m : Int) < l) := by omega
        have h4d : ¬ m < l := by omega
        have h1b : ¬ ((281474976710656 : Int) < ie.bytes * m) := by
          have : (2 : Int) ^ 48 = 281474976710656 := rfl
          omega
        have hrow : (⟨(List.replicate m z.cells.toList).flatten⟩ : Array Value) = (Array.range (m * re.size)).map fun i => z.cells[i % z.cells.size]! := by rw [fl_zero, hzc]
        by_cases h0 : m * re.size = 0
        · have hr0 : (⟨(List.replicate m z.cells.toList).flatten⟩ : Array Value) = #[] := by
            rw [hrow, h0]; simp
          rw [hr0]
          simp [Instr.makeSlice, run_under hr, hty, asInt, asIntOf, hinfo, hw, hw2, h1b, h4, h4b, h4c, h4d, run_size hre, h0, newRow, mkA_some]
          have hm0 : ∀ f : Nat → Value, (Array.range 0).map f = #[] := fun f => by simp
          rw [hm0]
        · rw [hrow]
          simp [Instr.makeSlice, run_under hr, hty, asInt, asIntOf, hinfo, hw, hw2, h1b, h4, h4b, h4c, h4d, run_size hre, h0, newRow, run_zero hre hz, mkA_some]
    · cases hl

-- what turns memory
def ResV (P : Program) (s : Sem Next) (w : World) (K : Value → World → Prop) : Prop :=
  (∃ v' w', s.run P w = .ok (.value v') w' ∧ K v' w') ∨ (∃ w', s.run P w = .ok .skip w' ∧ K undef w')
def Res (P : Program) (s : Sem Next) (w : World) (K : Value → World → Prop) : Prop :=
  (∃ v' w', s.run P w = .ok (.value v') w' ∧ K v' w') ∨ (∃ w', s.run P w = .ok .skip w' ∧ K undef w') ∨
  (∃ f args w1, s.run P w = .ok (.enter f args) w1 ∧ Calls P f args w1 fun e w' => ∃ v', e = .returned v' ∧ K v' w') ∨
  ∃ l f tmps as body w1, s.run P w = .ok (.round l f tmps as body) w1 ∧ RoundIn Fence.wide 0 P l f tmps as body w1 fun e w' => ∃ v', e = .returned v' ∧ K v' w'

theorem ResV.res {s : Sem Next} {K : Value → World → Prop} (h : ResV P s w K) : Res P s w K := by
  rcases h with h | h
  · exact Or.inl h
  · exact Or.inr (Or.inl h)
theorem Res.mono {s : Sem Next} {K K' : Value → World → Prop} (h : Res P s w K) (hk : ∀ v w, K v w → K' v w) : Res P s w K' := by
  rcases h with ⟨v', w', h1, h2⟩ | ⟨w', h1, h2⟩ | ⟨f, args, w1, h1, h2⟩ | ⟨l, f, tmps, as, body, w1, h1, h2⟩
  · exact Or.inl ⟨v', w', h1, hk _ _ h2⟩
  · exact Or.inr (Or.inl ⟨w', h1, hk _ _ h2⟩)
  · exact Or.inr (Or.inr (Or.inl ⟨f, args, w1, h1, h2.mono fun e w' ⟨v', he, h3⟩ => ⟨v', he, hk _ _ h3⟩⟩))
  · exact Or.inr (Or.inr (Or.inr ⟨l, f, tmps, as, body, w1, h1, h2.mono fun e w' ⟨v', he, h3⟩ => ⟨v', he, hk _ _ h3⟩⟩))
/-- of functions (none), or of rounds -/
def Fr (ro : Option Nat) : Fence := { Fence.wide with round := ro }
theorem wpIn_of_res {ro : Option Nat} {o : Oper} {K : Value → World → Prop} {next : Act → World → Prop} {Q : Exit → Act → World → Prop} (h : Res P (execOp a.eval o) w K) (hnd : ro = none ∨ ∀ c, o.op ≠ .defer c)
    (hK : ∀ v' w', K v' w' → next (a.put o.dst v') w') : o.wpIn (Fr ro) 0 P a w next Q := by
  refine ⟨fun _ _ => trivial, ?_⟩
  have hs : o.semAt (Fr ro).round a.eval = execOp a.eval o := by
    rcases hnd with e | e
    · subst e; rfl
    · exact Oper.semAt_eq _ _ _ e
  rw [hs]
  have hd : (Fr ro).depth.isSome = true → 1 ≤ 0 := fun e => by cases e
  rcases h with ⟨v', w', h1, h2⟩ | ⟨w', h1, h2⟩ | ⟨f, args, w1, h1, h2⟩ | ⟨l, f, tmps, as, body, w1, h1, h2⟩
  · rw [h1]; exact hK _ _ h2
  · rw [h1]; exact hK _ _ h2
  · rw [h1, Oper.uponIn_enter]
    refine ⟨hd, (callsIn_wide (n := 0)).2 (h2.mono fun e w' ⟨v', he, hk⟩ => ?_)⟩
    subst he
    exact hK _ _ hk
  · rw [h1, Oper.uponIn_round]
    refine ⟨hd, RoundIn.mono (R := fun e w' => ∃ v', e = .returned v' ∧ K v' w') h2 fun e w' ⟨v', he, hk⟩ => ?_⟩
    subst he
    exact hK _ _ hk
def putPs (r : Loop) (args : Array Value) : Array Value := (r.params.zip args).foldl (fun tmps (t, a) => tmps.setIfInBounds t a) r.tmps
structure CallOk (P : Program) (ng n0 : Nat) (cl : CallT) : Prop where
  fn : ∀ f args h v h', cl (.func f) args h = some (v, h') → (∃ fn b, P.funcs[f]? = some fn ∧ fn.body = some b) ∧ ∀ (ρ : Rho) (w : World) (args' : List Value), Sim ng n0 ρ h w → VRs ρ args args' →
    Calls P f ⟨args'⟩ w fun e w' => ∃ v', e = .returned v' ∧ Post ng n0 ρ h w h' v v' w'
  yd : ∀ l args h v h', cl (.yield l) args h = some (v, h') → ∀ (ρ : Rho) (w : World) (L : Nat) (args' : List Value), Sim ng n0 ρ h w → ρ l = some (L, 0) → VRs ρ args args' →
    ∃ r, w.heap[L]? = some (.loop r) ∧ args'.length = r.params.size ∧ RoundIn Fence.wide 0 P L r.fn (putPs r ⟨args'⟩) r.assign r.body w fun e w' => ∃ v', e = .returned v' ∧ Post ng n0 ρ h w h' v v' w'

/-- a call of which it is known what it returns -/
structure CFOk (P : Program) (c : CF) : Prop where
  body : ∃ fn b, P.funcs[c.f]? = some fn ∧ fn.body = some b
  args : ∀ v ∈ c.args, (caEq v v = true)
  val : okV DenV.den c.v = true
  need : ∀ p ∈ c.need, p.1 < P.globals.size
  call : ∀ w, P.globals.size ≤ w.heap.size → DenV.low ≤ w.heap.size → (∀ k, k < DenV.low → w.heap[k]? = DenV.fix k) → (∀ p ∈ c.need, ∀ (o : Nat) (u : Value), p.2[o]? = some u → w.cell? ⟨p.1, o, none⟩ = some u) → Calls P c.f ⟨c.args.map (dvs DenV.den)⟩ w fun e w' => e = .returned (dvs DenV.den c.v) ∧ Below w.heap.size w w'
theorem lookC_cons (c : CF) (l : List CF) (f : Nat) (args : List Value) : lookC (c :: l) f args = bi (Nat.beq c.f f) (bi (caEqL c.args args) (some c) (lookC l f args)) (lookC l f args) := rfl
theorem lookC_mem {f : Nat} {args : List Value} {v : CF} : ∀ {l : List CF}, lookC l f args = some v → v ∈ l ∧ v.f = f ∧ caEqL v.args args = true := by
  intro l
  induction l with
  | nil => intro h; cases h
  | cons c l ih =>
    intro h
    have tl : lookC l f args = some v → v ∈ c :: l ∧ v.f = f ∧ caEqL v.args args = true := fun h => let ⟨h1, h2⟩ := ih h; ⟨List.mem_cons_of_mem _ h1, h2⟩
    rw [lookC_cons] at h
    cases h1 : Nat.beq c.f f
    · rw [h1] at h; exact tl h
    cases h2 : caEqL c.args args
    · rw [h1, h2] at h; exact tl h
    rw [h1, h2] at h
    injection h with h
    subst h
    exact ⟨List.mem_cons_self .., Nat.eq_of_beq_eq_true h1, h2⟩
/-- a call that keeps what there was -/
theorem Sim.below (s : Sim ng n0 ρ h w) (hb : Below w.heap.size w w') : Sim ng n0 ρ h w' ∧ Step ρ h w ρ h w' := by
  have cl : ∀ {B : Nat}, B < w.heap.size → ∀ k, w'.cell? ⟨B, k, none⟩ = w.cell? ⟨B, k, none⟩ := fun hB k => hb.cell (p := ⟨_, k, none⟩) hB
  have fz : ∀ {B : Nat}, B < w.heap.size → ∀ k, w'.frozen? ⟨B, k, none⟩ = w.frozen? ⟨B, k, none⟩ := fun hB k => hb.frozen (p := ⟨_, k, none⟩) hB
  refine ⟨⟨s.born, fun i B base hi => Nat.lt_of_lt_of_le (s.inh i B base hi) hb.size, fun b t c B base h1 h2 k hk => ?_, s.glob, s.lowOk.step hb.size (fun k hk => hb.block k (Nat.lt_of_lt_of_le hk s.low)), fun b t c h1 => ?_, fun b t h1 => ?_, fun b es k h1 => ?_, fun b m sn sd st h1 => ?_, fun b x h1 h2 => ?_, s.cls, s.mem, s.clsb, s.inj⟩,
    ⟨Le.refl _, fun _ _ h => Or.inl h, Nat.le_refl _, hb.os, hb.tape, hb.output, hb.size, fun B hB _ => hb.block B hB, fun B hB => Or.inr hB⟩⟩
  · have hB := s.inh _ _ _ h2
    obtain ⟨v, k1, k2⟩ := s.rows b t c B base h1 h2 k hk
    exact ⟨v, by rw [cl hB]; exact k1, by rw [fz hB]; exact k2⟩
  · obtain ⟨B, base, k1, k2, k3, k4⟩ := s.cells b t c h1
    refine ⟨B, base, k1, k2, Nat.lt_of_lt_of_le k3 hb.size, fun o v hv => ?_⟩
    obtain ⟨v', q1, q2, q3⟩ := k4 o v hv
    exact ⟨v', by rw [cl k3]; exact q1, by rw [fz k3]; exact q2, q3⟩
  · obtain ⟨B, k1, k2, k3⟩ := s.ro b t h1
    have hB := s.inh _ _ _ k1
    refine ⟨B, k1, k2, fun o v hv => ?_⟩
    obtain ⟨v', q1, q3⟩ := k3 o v hv
    exact ⟨v', by rw [cl hB]; exact q1, q3⟩
  · obtain ⟨B, es', k1, k2, k3, k4⟩ := s.maps b es k h1
    exact ⟨B, es', k1, k2, by rw [hb.block B (s.inh _ _ _ k1)]; exact k3, k4⟩
  · obtain ⟨B, k1, k2, k3⟩ := s.iters b m sn sd st h1
    refine ⟨B, k1, k2, ?_⟩
    rw [hb.block B (s.inh _ _ _ k1)]
    exact k3
  · obtain ⟨B, o, k1, k2, k3, k4⟩ := s.objs b x h1 h2
    exact ⟨B, o, k1, k2, by rw [hb.block B (s.inh _ _ _ k1)]; exact k3, k4⟩

omit [Den] in
theorem veq1_eq {a b : Value} (h : veq1 a b = true) : a = b := by
  unfold veq1 at h
  split at h
  · rw [beqB_eq] at h; rw [eq_of_beq h]
  · rw [bi_tf, kEq_iff, ieq_iff] at h; rw [h.1, h.2]
  · rename_i x y
    rw [bytesEq_eq] at h
    have := eq_of_beq h
    obtain ⟨⟨x⟩⟩ := x; obtain ⟨⟨y⟩⟩ := y
    have : x = y := this
    rw [this]
  · rfl
  · rw [bi_tf] at h; rw [Nat.eq_of_beq_eq_true h.1, Nat.eq_of_beq_eq_true h.2]
  · rw [bi_tf] at h; rw [Nat.eq_of_beq_eq_true h.1, Nat.eq_of_beq_eq_true h.2]
  · rw [bi_tf, bi_tf, bi_tf] at h; rw [Nat.eq_of_beq_eq_true h.1, Nat.eq_of_beq_eq_true h.2.1, Nat.eq_of_beq_eq_true h.2.2.1, Nat.eq_of_beq_eq_true h.2.2.2]
  · rfl
  · rw [Nat.eq_of_beq_eq_true h]
  · rfl
  · rfl
  · rw [Nat.eq_of_beq_eq_true h]
  · cases h
theorem rowIs_cons (t : T Value) (u : Value) (l : List Value) (o : Nat) : rowIs t (u :: l) o = bi (match t.get o with | some v => bi (flat1 u) (veq1 v u) false | none => false) (rowIs t l (o + 1)) false := rfl
theorem rowIs_get {t : T Value} : ∀ {l : List Value} {o : Nat}, rowIs t l o = true → ∀ (i : Nat) (u : Value), l[i]? = some u → t.get (o + i) = some u ∧ flat1 u = true := by
  intro l
  induction l with
  | nil => intro o _ i u hi; simp at hi
  | cons x l ih =>
    intro o h i u hi
    rw [rowIs_cons, bi_tf] at h
    obtain ⟨h1, h2⟩ := h
    cases i with
    | zero =>
      simp at hi; subst hi
      split at h1
      · rename_i v hv
        rw [bi_tf] at h1
        rw [← veq1_eq h1.2]
        exact ⟨hv, by rw [veq1_eq h1.2]; exact h1.1⟩
      · cases h1
    | succ i =>
      have := ih h2 i u (by simpa using hi)
      rwa [show o + (i + 1) = o + 1 + i by omega]
theorem flat1_eq {u v : Value} (h : flat1 u = true) (k : VR ρ u v) : v = u := by
  unfold flat1 at h
  split at h <;> first | (cases h; done) | (cases k; rfl) | (cases k with | func _ _ _ _ _ h1 h2 => cases h1; cases h2; rfl)
theorem needsE_cons (h : H) (p : Nat × List Value) (l : List (Nat × List Value)) : needsE h (p :: l) = bi (match h.bl.get p.1 with | some (.ro t) => rowIs t p.2 0 | _ => false) (needsE h l) false := rfl
theorem needsE_cells (s : Sim ng n0 ρ h w) : ∀ {l : List (Nat × List Value)}, needsE h l = true → (∀ p ∈ l, p.1 < ng) → ∀ p ∈ l, ∀ (o : Nat) (u : Value), p.2[o]? = some u → w.cell? ⟨p.1, o, none⟩ = some u := by
  intro l
  induction l with
  | nil => intro _ _ p hp; cases hp
  | cons q l ih =>
    intro hn hl p hp
    rw [needsE_cons, bi_tf] at hn
    obtain ⟨h1, h2⟩ := hn
    rcases List.mem_cons.1 hp with rfl | hp
    · intro o u hu
      split at h1
      · rename_i t ht
        obtain ⟨k1, k2⟩ := rowIs_get h1 o u hu
        obtain ⟨B, e1, _, e2⟩ := s.ro _ _ ht
        rw [s.glob p.1 (hl p (List.mem_cons_self ..))] at e1
        injection e1 with e1; injection e1 with e1 _
        obtain ⟨v', e3, e4⟩ := e2 o u (by simpa using k1)
        rw [e1, e3, flat1_eq k2 e4]
      · cases h1
    · exact ih h2 (fun p hp => hl p (List.mem_cons_of_mem _ hp)) p hp
theorem Sim.ng_le (s : Sim ng n0 ρ h w) : ng ≤ w.heap.size := by
  cases ng with
  | zero => exact Nat.zero_le _
  | succ k => exact s.inh k k 0 (s.glob k (Nat.lt_succ_self k))

/-- what the program's maps.clone and IndexByteString do -/
structure CloneOk (P : Program) (clone : Sp) : Prop where
  map : clone.clone ≠ 0 → ∀ (t : TypeId) (b : Nat) (es : Array MapEntry) (k : Nat) (w : World), w.heap[b]? = some (.map es k) →
    (callFunc clone.clone #[.iface t (.map (some b))]).run P w = .ok (.value (.iface t (.map (some w.heap.size)))) { w with heap := w.heap.push (.map es k) }
  idx : clone.idx ≠ 0 → ∀ (args : Array Value) (w : World), (callFunc clone.idx args).run P w = (do let v ← Extern.BytealgIndexByte.indexByte args; pure (.value v) : Sem Next).run P w
  str : clone.str ≠ 0 → (∃ fn b, P.funcs[clone.str]? = some fn ∧ fn.body = some b) ∧ ∀ (s : ByteArray) (w : World), s.size ≤ 1000000 → Calls P clone.str #[.string s] w fun e w' => e = .returned (.string s) ∧ Below w.heap.size w w'
theorem CloneOk.none (P : Program) : CloneOk P 0 := ⟨fun h => absurd rfl h, fun h => absurd rfl h, fun h => absurd rfl h⟩

theorem store_sound (c : Ctx P eqs ρ α a) (s : Sim ng n0 ρ h w) {t : TypeId} {x y : Operand} {cl : CallT} {v : Value} {h' : H} (hl : lStore t x y (Env.of P eqs clone) cl α h = some (v, h')) :
    ∃ w', (Instr.storeAt t (a.eval x) (a.eval y)).run P w = .ok () w' ∧ Post ng n0 ρ h w h' v undef w' := by
  unfold lStore at hl
  rw [ob_some] at hl
  obtain ⟨p, hp, hl⟩ := hl
  rw [ob_some] at hl
  obtain ⟨u, hu, hl⟩ := hl
  rw [om_some] at hl
  obtain ⟨h2, hst, hl⟩ := hl
  injection hl with e1 e2; subst e1; subst e2
  have hp := c.opv hp
  have hu := c.opv hu
  generalize a.eval x = ex at *
  generalize a.eval y = ey at *
  unfold storeE at hst
  split at hst
  · rename_i b o
    rw [ob_some] at hst
    obtain ⟨r, hr, hst⟩ := hst
    rw [bi_some_none] at hst
    obtain ⟨hsz, hst⟩ := hst
    have hsz := Nat.eq_of_beq_eq_true hsz
    cases hp with
    | ptr b o B base hb =>
      obtain ⟨k1, k2, k3⟩ := storeRow_sound (P := P) s hb hu.vcells hst
      refine ⟨_, ?_, ρ, k2, k3, .tuple _ _ .nil⟩
      have : ey.cells.size = r.size := by rw [← hsz, hu.vcells.length, Array.length_toList]
      simp only [Instr.storeAt, Instr.sureAddr, Sem.run_bind, Sem.run_pure, Result.andThen_ok, storeVar, run_size hr, this, ne_eq, not_true_eq_false, if_false]
      exact k1
  · cases hst
end
end Go.Ev
