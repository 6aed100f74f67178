/- A part of an evaluator of closed runs, and that it is right. -/
import Derived.Test.YtnjihbpgjopghaaGreatDoorEvZ
set_option linter.unusedVariables false
set_option linter.unusedSimpArgs false
namespace Go.Ev
section
variable {P : Program} {eqs : List Nat} {clone : Nat} {n0 ng : Nat} {ρ : Rho} {h : H} {α : A} {a : Act} {w w' : World}

theorem range_zero (zs : Array Value) : ∀ n : Nat, ((Array.range (n * zs.size)).map fun i => zs[i % zs.size]!).toList = (List.replicate n zs.toList).flatten := by
  intro n
  rw [Array.toList_map, Array.toList_range]
  induction n with
  | zero => simp
  | succ n ih =>
    rw [Nat.add_mul, Nat.one_mul, Nat.add_comm, List.range_add, List.map_append, List.replicate_succ, List.flatten_cons, List.map_map]
    congr 1
    · apply List.ext_getElem?
      intro i
      by_cases hi : i < zs.size
      · simp [hi, Nat.mod_eq_of_lt hi]
      · simp [hi]
    · rw [← ih]
      apply List.map_congr_left
      intro i _
      simp

/-- a row that is made -/
def Made (P : Program) (s : Sem Value) (ρ : Rho) (row : List Value) (n : Option Nat) (w : World) : Prop :=
  ∃ row' el, VRs ρ row row' ∧ (∀ k, n = some k → k < capU) ∧
    s.run P w = .ok (mkA w.heap.size n) { w with heap := w.heap.push (.cells ⟨row'⟩ el) }

theorem mkA_none (b : Nat) : mkA b none = .pointer (some ⟨b, 0, none⟩) := rfl
theorem mkA_some (b k : Nat) : mkA b (some k) = .slice (some ⟨b, 0, none⟩) k k := rfl
theorem toList_cells (v : Value) : v.cells = ⟨v.cells.toList⟩ := rfl

theorem fl_zero {z : Value} {n : Nat} : (⟨(List.replicate n z.cells.toList).flatten⟩ : Array Value) = (Array.range (n * z.cells.size)).map fun i => z.cells[i % z.cells.size]! := by
  apply Array.ext'
  rw [range_zero]
theorem vcells_flat {z : Value} : vcells z = z.cells.toList := by cases z <;> rfl
theorem VRs.flatten_replicate {l m : List Value} (h : VRs ρ l m) : ∀ n : Nat, VRs ρ (List.replicate n l).flatten (List.replicate n m).flatten
  | 0 => .nil
  | n + 1 => by rw [List.replicate_succ, List.replicate_succ, List.flatten_cons, List.flatten_cons]; exact h.append (VRs.flatten_replicate h n)

theorem alloc_sound (c : Ctx P eqs ρ α a) {o : Oper} {row : List Value} {n : Option Nat} (hl : allocE o.op (Env.of P eqs clone) α = some (row, n)) :
    ∃ s, execOp a.eval o = (do pure (.value (← s))) ∧ Made P s ρ row n w := by
  obtain ⟨dst, op, type, pos, after, guard⟩ := o
  cases op <;> simp only [allocE] at hl <;> first | (cases hl; done) | skip
  case alloc t =>
    unfold aAlloc at hl
    rw [om_some] at hl
    obtain ⟨z, hz, hl⟩ := hl
    injection hl with e1 e2; subst e1; subst e2
    obtain ⟨h1, h2⟩ := zeroOf_sound (w := w) hz
    refine ⟨_, rfl, z.cells.toList, t, h2.vcells, by simp, ?_⟩
    simp only [Instr.alloc, Sem.run_bind, h1, Result.andThen_ok, newVar, newRow, run_newObj, Sem.run_pure, mkA_none]
  case box t x =>
    unfold aBox at hl
    rw [om_some] at hl
    obtain ⟨z, hz, hl⟩ := hl
    injection hl with e1 e2; subst e1; subst e2
    refine ⟨_, rfl, (a.eval x).cells.toList, t, (c.opv hz).vcells, by simp, ?_⟩
    simp only [Instr.box, Sem.run_bind, Result.andThen_ok, newVar, newRow, run_newObj, Sem.run_pure, mkA_none]
  case buildSlice t len ps =>
    unfold aSlice at hl
    rw [ob_some] at hl
    obtain ⟨r, hr, hl⟩ := hl
    rw [ob_some] at hl
    obtain ⟨qs, hqs, hl⟩ := hl
    obtain ⟨h1, h2⟩ := parts_sound c hqs
    split at hl
    · rename_i e hty
      rw [ob_some] at hl
      obtain ⟨re, hre, hl⟩ := hl
      rw [ob_some] at hl
      obtain ⟨z, hz, hl⟩ := hl
      rw [bi_some_none, bi_some_none, bi_none_some, bi_none_some, om_some] at hl
      obtain ⟨hf, hzs, hsm, hsm2, l, hl, he⟩ := hl
      injection he with e1 e2; subst e1; subst e2
      have hzs := Nat.eq_of_beq_eq_true hzs
      have hsm : len * re.size < 1000000 := by rw [← Bool.not_eq_true, Nat.ble_eq] at hsm; omega
      have hsm2 : len < 1000000 := by rw [← Bool.not_eq_true, Nat.ble_eq] at hsm2; omega
      have hzc : z.cells.size = re.size := by rw [← hzs, vcells_flat, Array.length_toList]
      have hz0 := (flat_VR (ρ := ρ) hf).vcells.flatten_replicate len
      rw [show (List.replicate len z.cells.toList).flatten = ((⟨(List.replicate len z.cells.toList).flatten⟩ : Array Value)).toList from rfl] at hz0
      obtain ⟨l', h3, h4⟩ := fill_sound _ (fun i => some (i * re.size, re.size)) (fun i q h => h) _ _ h1 h2 _ _ _ hz0 hl
      refine ⟨_, rfl, l', e, h4, fun k hk => by injection hk with hk; subst hk; unfold capU; omega, ?_⟩
      have hps : (ps.map fun (i, x) => (i, a.eval x)).toList = ps.toList.map fun p => (p.1, a.eval p.2) := by simp
      have hb : ¬ len * re.size > 2 ^ 24 := by
        have : (2 : Nat) ^ 24 = 16777216 := rfl
        omega
      have hfl : Instr.fill (fun i => some (i * re.size, re.size)) ((Array.range (len * re.size)).map fun i => z.cells[i % z.cells.size]!) (ps.map fun (i, x) => (i, a.eval x)).toList = some ⟨l'⟩ := by
        rw [← hzc, ← fl_zero, hps]
        rw [hzc]; exact h3
      by_cases h0 : len * re.size = 0
      · have hm0 : ∀ f : Nat → Value, (Array.range 0).map f = #[] := fun f => by simp
        have hfl0 : Instr.fill (fun i => some (i * re.size, re.size)) #[] (ps.map fun (i, x) => (i, a.eval x)).toList = some ⟨l'⟩ := by
          rw [← hfl, h0, hm0]
        have hb0 : ¬ ((0 : Nat) > 2 ^ 24) := by simp
        simp only [Instr.buildSlice, Sem.run_bind, run_under hr, hty, Result.andThen_ok, run_size hre, h0, hb0, if_false, if_true, Sem.run_pure, hm0, hfl0, newRow, run_newObj, mkA_some]
      · simp only [Instr.buildSlice, Sem.run_bind, run_under hr, hty, Result.andThen_ok, run_size hre, hb, if_false, h0, Sem.run_pure, run_zero hre hz, hfl, newRow, run_newObj, mkA_some]
    · cases hl
  case makeSlice t x y =>
    unfold aMake at hl
    rw [ob_some] at hl
    obtain ⟨lv, hlv0, hl⟩ := hl
    rw [ob_some] at hl
    obtain ⟨cv, hcv0, hl⟩ := hl
    rw [ob_some] at hl
    obtain ⟨r, hr, hl⟩ := hl
    have hlv := c.opv hlv0
    have hcv := c.opv hcv0
    clear hlv0 hcv0
    split at hl
    · rename_i e k1 l k2 m hty
      rw [ob_some] at hl
      obtain ⟨re, hre, hl⟩ := hl
      rw [ob_some] at hl
      obtain ⟨z, hz, hl⟩ := hl
      rw [bi_some_none, bi_some_none, bi_some_none, bi_none_some, bi_none_some] at hl
      obtain ⟨hf, hzs, hlm, hby, hsm, hl⟩ := hl
      injection hl with hl; injection hl with e1 e2; subst e1; subst e2
      have hlm := Nat.eq_of_beq_eq_true hlm
      subst hlm
      have hzs := Nat.eq_of_beq_eq_true hzs
      have hby : re.bytes < 1000000 := by rw [← Bool.not_eq_true, Nat.ble_eq] at hby; omega
      have hsm : l < 1000000 := by rw [← Bool.not_eq_true, Nat.ble_eq] at hsm; omega
      have hzc : z.cells.size = re.size := by rw [← hzs, vcells_flat, Array.length_toList]
      refine ⟨_, rfl, (List.replicate l z.cells.toList).flatten, e, ?_, fun k hk => by injection hk with hk; subst hk; unfold capU; omega, ?_⟩
      · exact (flat_VR (ρ := ρ) hf).vcells.flatten_replicate l
      · generalize a.eval x = ex at *
        generalize a.eval y = ey at *
        cases hlv; cases hcv
        obtain ⟨ie, hi1, _, hi2, hi3, hi4⟩ := ty_spec hre
        have hinfo : ∀ w, (typeInfo e).run P w = .ok ie w := fun w => by simp [typeInfo, hi1]
        have hw : IntKind.i64.wrap (l : Int) = l := IntWalk.i64_in _ (by omega)
        have h1 : ¬ ((ie.bytes : Int) * l > 2 ^ 48) := by
          have h2 : ie.bytes * l ≤ 1000000 * 1000000 := Nat.mul_le_mul (by omega) (by omega)
          have h3 : ((ie.bytes * l : Nat) : Int) ≤ 1000000000000 := by omega
          rw [Int.natCast_mul] at h3
          have : (2 : Int) ^ 48 = 281474976710656 := rfl
          omega
        have h4 : ¬ ((l : Int) < 0) := by omega
        have h1b : ¬ ((281474976710656 : Int) < ie.bytes * l) := by
          have : (2 : Int) ^ 48 = 281474976710656 := rfl
          omega
        have hrow : (⟨(List.replicate l z.cells.toList).flatten⟩ : Array Value) = (Array.range (l * re.size)).map fun i => z.cells[i % z.cells.size]! := by rw [fl_zero, hzc]
        by_cases h0 : l * re.size = 0
        · have hr0 : (⟨(List.replicate l z.cells.toList).flatten⟩ : Array Value) = #[] := by
            rw [hrow, h0]; simp
          rw [hr0]
          simp [Instr.makeSlice, run_under hr, hty, asInt, asIntOf, hinfo, hw, h1b, h4, run_size hre, h0, newRow, mkA_some]
          have hm0 : ∀ f : Nat → Value, (Array.range 0).map f = #[] := fun f => by simp
          rw [hm0]
        · rw [hrow]
          simp [Instr.makeSlice, run_under hr, hty, asInt, asIntOf, hinfo, hw, h1b, h4, run_size hre, h0, newRow, run_zero hre hz, mkA_some]
    · cases hl

-- what turns memory
def Res (P : Program) (s : Sem Next) (w : World) (K : Value → World → Prop) : Prop :=
  (∃ v' w', s.run P w = .ok (.value v') w' ∧ K v' w') ∨ (∃ w', s.run P w = .ok .skip w' ∧ K undef w') ∨
  ∃ f args w1, s.run P w = .ok (.enter f args) w1 ∧ Calls P f args w1 fun e w' => ∃ v', e = .returned v' ∧ K v' w'

theorem wp_of_res {o : Oper} {K : Value → World → Prop} {next : Act → World → Prop} {Q : Exit → Act → World → Prop} (h : Res P (execOp a.eval o) w K)
    (hK : ∀ v' w', K v' w' → next (a.put o.dst v') w') : o.wp P a w next Q := by
  unfold Oper.wp
  rcases h with ⟨v', w', h1, h2⟩ | ⟨w', h1, h2⟩ | ⟨f, args, w1, h1, h2⟩
  · rw [h1]; exact hK _ _ h2
  · rw [h1]; exact hK _ _ h2
  · rw [h1]
    refine h2.mono fun e w' ⟨v', he, hk⟩ => ?_
    subst he
    exact hK _ _ hk

def CallOk (P : Program) (ng n0 : Nat) (cl : CallT) : Prop :=
  ∀ f args h v h', cl f args h = some (v, h') → (∃ fn b, P.funcs[f]? = some fn ∧ fn.body = some b) ∧ ∀ (ρ : Rho) (w : World) (args' : List Value), Sim ng n0 ρ h w → VRs ρ args args' →
    Calls P f ⟨args'⟩ w fun e w' => ∃ v', e = .returned v' ∧ Post ng n0 ρ h w h' v v' w'

/-- what the program's maps.clone does -/
def CloneOk (P : Program) (clone : Nat) : Prop :=
  ∀ (t : TypeId) (b : Nat) (es : Array MapEntry) (k : Nat) (w : World), w.heap[b]? = some (.map es k) →
    (callFunc clone #[.iface t (.map (some b))]).run P w = .ok (.value (.iface t (.map (some w.heap.size)))) { w with heap := w.heap.push (.map es k) }

theorem store_sound (c : Ctx P eqs ρ α a) (s : Sim ng n0 ρ h w) {t : TypeId} {x y : Operand} {cl : CallT} {v : Value} {h' : H} (hl : lStore t x y (Env.of P eqs clone) cl α h = some (v, h')) :
    ∃ w', (Instr.storeAt t (a.eval x) (a.eval y)).run P w = .ok () w' ∧ Post ng n0 ρ h w h' v undef w' := by
  unfold lStore at hl
  rw [ob_some] at hl
  obtain ⟨p, hp, hl⟩ := hl
  rw [ob_some] at hl
  obtain ⟨u, hu, hl⟩ := hl
  rw [om_some] at hl
  obtain ⟨h2, hst, hl⟩ := hl
  injection hl with e1 e2; subst e1; subst e2
  have hp := c.opv hp
  have hu := c.opv hu
  generalize a.eval x = ex at *
  generalize a.eval y = ey at *
  unfold storeE at hst
  split at hst
  · rename_i b o
    rw [ob_some] at hst
    obtain ⟨r, hr, hst⟩ := hst
    rw [bi_some_none] at hst
    obtain ⟨hsz, hst⟩ := hst
    have hsz := Nat.eq_of_beq_eq_true hsz
    cases hp with
    | ptr b o B base hb =>
      obtain ⟨k1, k2, k3⟩ := storeRow_sound (P := P) s hb hu.vcells hst
      refine ⟨_, ?_, ρ, k2, k3, .tuple _ _ .nil⟩
      have : ey.cells.size = r.size := by rw [← hsz, hu.vcells.length, Array.length_toList]
      simp only [Instr.storeAt, Instr.sureAddr, Sem.run_bind, Sem.run_pure, Result.andThen_ok, storeVar, run_size hr, this, ne_eq, not_true_eq_false, if_false]
      exact k1
  · cases hst
end
end Go.Ev
