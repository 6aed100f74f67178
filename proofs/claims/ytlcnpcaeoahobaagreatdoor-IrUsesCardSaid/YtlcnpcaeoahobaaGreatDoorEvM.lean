/- A part of an evaluator of runs, and that it is right. -/
import Derived.Test.YtlcnpcaeoahobaaGreatDoorEvS
import Derived.Laws.BytesString
import Derived.Laws.IdiomStrings
set_option linter.unusedVariables false
set_option linter.unusedSimpArgs false
set_option linter.unusedSectionVars false
namespace Go.Ev
variable [Den]
section
variable {P : Program} {eqs : List Nat} {clone : Sp} {n0 ng : Nat} {ρ : Rho} {h : H} {α : A} {a : Act} {w : World}

theorem same_sound {u : TypeDesc} {k k' e e' : Value} {b : Bool} (hs : scalarD u k = true) (hk : VR ρ k k') (he : VR ρ e e') (h : eqK k e = some b) : Instr.sameNow u k' e' = some b := by
  unfold eqK at h
  split at h
  · rw [bi_some_none] at h
    obtain ⟨h1, h2⟩ := h
    rw [kEq_iff] at h1; subst h1
    injection h2 with h2; subst h2
    cases hk; cases he
    cases u <;> simp only [scalarD] at hs <;> first | (cases hs; done) | simp [Instr.sameNow, ieq_eq]
  · injection h with h; subst h
    cases hk; cases he
    cases u <;> simp only [scalarD] at hs <;> first | (cases hs; done) | skip
    simp only [Instr.sameNow, bytesEq_eq, beq_toListBytes, toList_strL]
  · injection h with h; subst h
    cases hk; cases he
    cases u <;> simp only [scalarD] at hs <;> first | (cases hs; done) | simp [Instr.sameNow, beqB_eq]
  · cases h

theorem checkKey_sound {t : TypeId} {u : TypeDesc} {k k' : Value} (hu : P.underlying t = some u) (hs : scalarD u k = true) (hk : VR ρ k k') (e : Bool) (d : Nat) :
    (Instr.checkKey e (d + 1) t k').run P w = .ok () w := by
  unfold scalarD at hs
  split at hs <;> first | (cases hs; done) | skip
  all_goals cases hk; simp [Instr.checkKey, run_underlying hu]

theorem findE_cons (k : Value) (e : Value × Value × Nat) (l : List (Value × Value × Nat)) : findE k (e :: l) = ob (eqK k e.1) fun b => bi b (some (some e.2.1)) (findE k l) := rfl
theorem findNow_sound {u : TypeDesc} {k k' : Value} (hs : scalarD u k = true) (hk : VR ρ k k') : ∀ {es : List (Value × Value × Nat)} {es' : List MapEntry} {f : Option Value} (i : Nat), ER ρ es es' → findE k es = some f →
    (f = none ∧ Instr.findNow u k' es' i = some none) ∨ ∃ v j v', f = some v ∧ Instr.findNow u k' es' i = some (some (j, v')) ∧ VR ρ v v' := by
  intro es es' f i he
  induction he generalizing i with
  | nil => intro h; injection h with h; exact Or.inl ⟨h.symm, rfl⟩
  | cons k1 v1 k2 v2 n l m hk1 hv1 _ ih =>
    intro h
    rw [findE_cons, ob_some] at h
    obtain ⟨b, hb, h⟩ := h
    have hsame := same_sound hs hk hk1 hb
    simp only [Instr.findNow, hsame]
    cases b
    · exact ih (i + 1) h
    · injection h with h
      exact Or.inr ⟨v1, i, v2, h.symm, rfl, hv1⟩

theorem updE_cons (k v : Value) (c : Nat) (e : Value × Value × Nat) (l : List (Value × Value × Nat)) :
    updE k v c (e :: l) = ob (eqK k e.1) fun b => bi b (some ((k, v, e.2.2) :: l, c)) (om (updE k v c l) fun r => (e :: r.1, r.2)) := rfl
theorem eqK_bits {u : TypeDesc} {k k' e e' : Value} (hs : scalarD u k = true) (hk : VR ρ k k') (he : VR ρ e e') (h : eqK k e = some true) (n : Nat) : Instr.sameBits (n + 1) e' k' = true := by
  unfold eqK at h
  split at h
  · rw [bi_some_none] at h
    obtain ⟨h1, h2⟩ := h
    rw [kEq_iff] at h1; subst h1
    injection h2 with h2
    cases hk; cases he
    have := ieq_iff.1 h2
    subst this
    simp [Instr.sameBits]
  · injection h with h
    cases hk; cases he
    rename_i a b
    rw [bytesEq_eq] at h
    have : a = b := by
      obtain ⟨⟨a⟩⟩ := a
      obtain ⟨⟨b⟩⟩ := b
      have : a = b := by simpa [strL] using h
      rw [this]
    subst this
    simp [Instr.sameBits, beq_toListBytes]
  · injection h with h
    cases hk; cases he
    rw [beqB_eq] at h
    simp at h; subst h
    simp [Instr.sameBits]
  · cases h
theorem updE_sound {u : TypeDesc} {k k' v v' : Value} {c : Nat} (hs : scalarD u k = true) (hk : VR ρ k k') (hv : VR ρ v v') : ∀ {es : List (Value × Value × Nat)} {es' : List MapEntry} {r : List (Value × Value × Nat) × Nat} (i : Nat), ER ρ es es' → updE k v c es = some r →
    (Instr.findNow u k' es' i = some none ∧ ER ρ r.1 (es' ++ [⟨k', v', c⟩]) ∧ r.2 = c + 1) ∨
    ∃ j e vv, Instr.findNow u k' es' i = some (some (i + j, vv)) ∧ es'[j]? = some e ∧ Instr.sameBits 10000 e.key k' = true ∧ ER ρ r.1 (es'.modify j fun e => { e with key := k', val := v' }) ∧ r.2 = c := by
  intro es es' r i he
  induction he generalizing i r with
  | nil => intro h; injection h with h; subst h; exact Or.inl ⟨rfl, .cons _ _ _ _ _ _ _ hk hv .nil, rfl⟩
  | cons k1 v1 k2 v2 n l m hk1 hv1 hl ih =>
    intro h
    rw [updE_cons, ob_some] at h
    obtain ⟨b, hb, h⟩ := h
    have hsame := same_sound hs hk hk1 hb
    simp only [Instr.findNow, hsame]
    cases b
    · rw [bi_false, om_some] at h
      obtain ⟨r', hr', rfl⟩ := h
      rcases ih (i + 1) hr' with ⟨h1, h2, h3⟩ | ⟨j, e, vv, h1, h2, h3, h4, h5⟩
      · exact Or.inl ⟨h1, .cons _ _ _ _ _ _ _ hk1 hv1 h2, h3⟩
      · refine Or.inr ⟨j + 1, e, vv, ?_, by simpa using h2, h3, ?_, h5⟩
        · simp only [h1, Nat.add_assoc, Nat.add_comm 1 j]
        · simpa using ER.cons _ _ _ _ _ _ _ hk1 hv1 h4
    · injection h with h; subst h
      refine Or.inr ⟨0, ⟨k2, v2, n⟩, v2, rfl, rfl, eqK_bits hs hk hk1 hb 9999, ?_, rfl⟩
      simpa using ER.cons _ _ _ _ n _ _ hk hv hl

theorem mapAt_sound (s : Sim ng n0 ρ h w) {b B base : Nat} {e : List (Value × Value × Nat) × Nat} (hb : ρ b = some (B, base)) (hm : mapAt h b = some e) :
    ∃ es', h.bl.get b = some (.mp e.1 e.2) ∧ n0 ≤ B ∧ base = 0 ∧ w.heap[B]? = some (.map ⟨es'⟩ e.2) ∧ ER ρ e.1 es' := by
  unfold mapAt at hm
  rw [ob_some] at hm
  obtain ⟨x, hx, hm⟩ := hm
  split at hm
  · injection hm with hm; subst hm
    obtain ⟨B', es', h1, h2, h3, h4⟩ := s.maps _ _ _ hx
    rw [h1] at hb; injection hb with hb; injection hb with hb1 hb2; subst hb1; subst hb2
    exact ⟨es', hx, h2, rfl, h3, h4⟩
  · cases hm

theorem zeroOf_sound {e : TypeId} {z : Value} (hz : zeroOf (Env.of P eqs clone) e = some z) : (zeroValue e).run P w = .ok z w ∧ VR ρ z z := by
  unfold zeroOf at hz
  rw [ob_some] at hz
  obtain ⟨re, hre, hz⟩ := hz
  rw [ob_some] at hz
  obtain ⟨z', hz', hz⟩ := hz
  rw [bi_some_none] at hz
  obtain ⟨hfl, hz⟩ := hz
  injection hz with hz; subst hz
  exact ⟨run_zero hre hz', flat_VR hfl⟩

theorem lookup_sound (c : Ctx P eqs ρ α a) (s : Sim ng n0 ρ h w) {t : TypeId} {x y : Operand} {ok : Bool} {v : Value} (hl : rLookup t x y ok (Env.of P eqs clone) α h = some v) :
    Y P (Instr.lookup t (a.eval x) (a.eval y) ok) ρ v w := by
  unfold rLookup at hl
  rw [ob_some] at hl
  obtain ⟨m, hm, hl⟩ := hl
  rw [ob_some] at hl
  obtain ⟨k, hk, hl⟩ := hl
  rw [ob_some] at hl
  obtain ⟨r, hr, hl⟩ := hl
  have hm' := c.opv hm
  have hk' := c.opv hk
  generalize a.eval x = ex at *
  generalize a.eval y = ey at *
  split at hl
  · rename_i kt e mo hty
    rw [ob_some] at hl
    obtain ⟨rk, hrk, hl⟩ := hl
    rw [bi_some_none, ob_some] at hl
    obtain ⟨hs, es, hes, hl⟩ := hl
    rw [ob_some] at hl
    obtain ⟨f, hf, hl⟩ := hl
    obtain ⟨_, _, huk, _, _, _⟩ := ty_spec hrk
    have hck := fun e => checkKey_sound (w := w) huk hs hk' e 9999
    have hfin : ∀ (es' : List MapEntry) (o : Option (Nat × Value)), Instr.findNow rk.u ey es' 0 = some o → (Instr.findKey kt ey es').run P w = .ok o w := by
      intro es' o ho
      simp [Instr.findKey, run_under hrk, ho]
    cases mo with
    | none =>
      injection hes with hes; subst hes; cases hm'
      injection hf with hf; subst hf
      simp only [om_some] at hl
      obtain ⟨z, hz, rfl⟩ := hl
      obtain ⟨hz, hfl⟩ := zeroOf_sound (w := w) hz
      refine ⟨if ok then .tuple #[z, .bool false] else z, ?_, ?_⟩
      · simp [Instr.lookup, run_under hr, hty, hck, hfin [] none rfl, hz]
      · cases ok
        · exact hfl
        · exact .tuple _ _ (.cons _ _ _ _ hfl (.cons _ _ _ _ (.bool _) .nil))
    | some b =>
      simp only [om_some] at hes
      obtain ⟨e', he', rfl⟩ := hes
      cases hm' with
      | map b B hb =>
        obtain ⟨es', h1, h2, _, h3, hER⟩ := mapAt_sound s hb he'
        have hg : (getObj B).run P w = .ok (.map ⟨es'⟩ e'.2) w := run_getObj_map (w := w) B _ _ h3
        rcases findNow_sound hs hk' 0 hER hf with ⟨rfl, h1⟩ | ⟨u, j, u', rfl, h1, h2⟩
        · simp only [om_some] at hl
          obtain ⟨z, hz, rfl⟩ := hl
          obtain ⟨hz, hfl⟩ := zeroOf_sound (w := w) hz
          refine ⟨if ok then .tuple #[z, .bool false] else z, ?_, ?_⟩
          · simp [Instr.lookup, run_under hr, hty, hck, hfin _ none h1, hz, hg]
          · cases ok
            · exact hfl
            · exact .tuple _ _ (.cons _ _ _ _ hfl (.cons _ _ _ _ (.bool _) .nil))
        · injection hl with hl; subst hl
          refine ⟨if ok then .tuple #[u', .bool true] else u', ?_, ?_⟩
          · simp [Instr.lookup, run_under hr, hty, hck, hfin _ _ h1, hg]
          · cases ok
            · exact h2
            · exact .tuple _ _ (.cons _ _ _ _ h2 (.cons _ _ _ _ (.bool _) .nil))
  · cases hl

theorem bornE_sound {n : Nat} {es : List (Value × Value × Nat)} {es' : List MapEntry} {v : Value} (he : ER ρ es es') (h : bornE n es = some v) :
    ∃ e, es'.find? (·.born == n) = some e ∧ VR ρ v (.tuple #[e.key, e.val]) := by
  induction he with
  | nil => cases h
  | cons k1 v1 k2 v2 m l l' hk hv _ ih =>
    simp only [bornE] at h
    rw [bi_eq] at h
    split at h
    · rename_i h1
      have h1 := Nat.eq_of_beq_eq_true h1
      subst h1
      injection h with h; subst h
      exact ⟨⟨k2, v2, m⟩, by simp, .tuple _ _ (.cons _ _ _ _ hk (.cons _ _ _ _ hv .nil))⟩
    · rename_i h1
      have h1 : ¬ m = n := fun e => h1 (by simp [e])
      obtain ⟨e, h2, h3⟩ := ih h
      have h1' : (m == n) = false := by simpa using h1
      exact ⟨e, by rw [List.find?_cons]; simp [h1', h2], h3⟩

theorem entry_sound (c : Ctx P eqs ρ α a) (s : Sim ng n0 ρ h w) {x : Operand} {v : Value} (hl : rEntry x (Env.of P eqs clone) α h = some v) :
    Y P (Instr.entry (a.eval x)) ρ v w := by
  unfold rEntry at hl
  rw [ob_some] at hl
  obtain ⟨p, hp, hl⟩ := hl
  have hp' := c.opv hp
  generalize a.eval x = ex at *
  split at hl
  · rename_i b
    rw [ob_some] at hl
    obtain ⟨y, hy, hl⟩ := hl
    split at hl
    · rename_i m sn seen last
      rw [ob_some] at hl
      obtain ⟨st, hst, hl⟩ := hl
      rw [ob_some] at hl
      obtain ⟨e, he, hl⟩ := hl
      rw [bi_some_none] at hl
      obtain ⟨hck, hl⟩ := hl
      have hck := Nat.eq_of_beq_eq_true hck
      cases hp' with
      | ptr b o B base hb =>
        obtain ⟨B', h1, h2, h3⟩ := s.iters _ _ _ _ _ hy
        rw [h1] at hb; injection hb with hb; injection hb with hb1 hb2; subst hb1; subst hb2
        rcases h3 with ⟨h3, _⟩ | ⟨k, M, h3, h4, h5⟩
        · cases h3
        · injection h3 with h3; subst h3
          obtain ⟨es', _, _, _, h6, hER⟩ := mapAt_sound s h4 he
          obtain ⟨e', h7, h8⟩ := bornE_sound hER hl
          refine ⟨_, ?_, h8⟩
          have hg : (getObj M).run P w = .ok (.map ⟨es'⟩ e.2) w := run_getObj_map (w := w) M _ _ h6
          have hg2 : (getObj B').run P w = .ok (.mapIter (some M) sn ⟨seen⟩ last) w := by simp [getObj, Sem.run, h5]
          have hb2 : (⟨seen⟩ : Array Nat).back? = some st := by simpa using hst
          simp [Instr.entry, hg2, hb2, hg, hck, h7]
    · cases hl
  · cases hl

theorem bytesV_sound : ∀ {l l' : List Value} {bs : List UInt8}, VRs ρ l l' → bytesV l = some bs → ∃ ns : List Int, l' = ns.map (Value.int .u8) ∧ ns.map (fun n => UInt8.ofNat n.toNat) = bs := by
  intro l
  induction l with
  | nil => intro l' bs hv h; cases hv; injection h with h; subst h; exact ⟨[], rfl, rfl⟩
  | cons v l ih =>
    intro l' bs hv h
    unfold bytesV at h
    split at h
    · rename_i n
      rw [om_some] at h
      obtain ⟨bs', h1, rfl⟩ := h
      cases hv with
      | cons _ w _ m h2 h3 =>
        cases h2
        obtain ⟨ns, rfl, e⟩ := ih h3 h1
        exact ⟨Int.ofNat n :: ns, rfl, by rw [List.map_cons, e]; rfl⟩
    · cases h
theorem foldl_bytes : ∀ (ns : List Int) (s : ByteArray), ns.foldl (fun r n => r.push (UInt8.ofNat n.toNat)) s = ⟨s.data ++ (ns.map fun n => UInt8.ofNat n.toNat).toArray⟩
  | [], s => by simp
  | n :: ns, s => by
    rw [List.foldl_cons, foldl_bytes ns]
    simp [ByteArray.push]
theorem bytes_sound (c : Ctx P eqs ρ α a) (s : Sim ng n0 ρ h w) {st dt : TypeId} {x : Operand} {v : Value} (hl : rBytes st dt x (Env.of P eqs clone) α h = some v) : Y P (convert st dt (a.eval x)) ρ v w := by
  unfold rBytes at hl
  rw [ob_some] at hl
  obtain ⟨u, hu, hl⟩ := hl
  rw [ob_some] at hl
  obtain ⟨rs, hrs, hl⟩ := hl
  rw [ob_some] at hl
  obtain ⟨rd, hrd, hl⟩ := hl
  have hu' := c.opv hu
  generalize a.eval x = ex at *
  split at hl
  · rename_i e ad n cp hs hd
    rw [ob_some] at hl
    obtain ⟨re, hre, hl⟩ := hl
    split at hl
    · rename_i he
      obtain ⟨_, _, hrs', _, _, _⟩ := ty_spec hrs
      obtain ⟨_, _, hrd', _, _, _⟩ := ty_spec hrd
      obtain ⟨_, _, hre', _, _, _⟩ := ty_spec hre
      rw [hs] at hrs'; rw [hd] at hrd'; rw [he] at hre'
      have hnil : ByteArray.empty = ⟨⟨[]⟩⟩ := rfl
      split at hl
      · injection hl with hl; subst hl
        cases hu'
        refine ⟨_, ?_, .string _⟩
        rw [run_convert_bytes_string w st dt e _ _ _ hrs' hre' hrd']
        simp [Conv.bytesToString, hnil]
      · rename_i b o
        rw [ob_some] at hl
        obtain ⟨t, ht, hl⟩ := hl
        rw [ob_some] at hl
        obtain ⟨l, hgl, hl⟩ := hl
        rw [om_some] at hl
        obtain ⟨bs, hbs, rfl⟩ := hl
        cases hu' with
        | slice _ _ _ _ B base c' hb _ _ =>
          obtain ⟨l', h1, h2, _⟩ := load_cells (P := P) hgl (cellsAt_sound s hb ht)
          obtain ⟨ns, rfl, e2⟩ := bytesV_sound h2 hbs
          refine ⟨_, ?_, .string _⟩
          rw [run_convert_bytes_string w st dt e _ _ _ hrs' hre' hrd', run_bytesToString w _ _ _ ns h1, foldl_bytes, e2, hnil]
          simp
        | slice0 _ _ a' c' _ =>
          injection hgl with hgl; subst hgl
          injection hbs with hbs; subst hbs
          refine ⟨_, ?_, .string _⟩
          rw [run_convert_bytes_string w st dt e _ _ _ hrs' hre' hrd', run_bytesToString w _ _ _ [] (by simp [loadCells, loadCellsFrom])]
          rfl
      · cases hl
    · cases hl
  · cases hl

theorem read_sound (c : Ctx P eqs ρ α a) (s : Sim ng n0 ρ h w) {o : Oper} {v : Value} (hl : readE o.op (Env.of P eqs clone) α h = some v) :
    ∃ v', (execOp a.eval o).run P w = .ok (.value v') w ∧ VR ρ v v' := by
  have lift : ∀ {s : Sem Value}, execOp a.eval o = (do pure (.value (← s))) → Y P s ρ v w → ∃ v', (execOp a.eval o).run P w = .ok (.value v') w ∧ VR ρ v v' := by
    intro s he ⟨v', h1, h2⟩
    exact ⟨v', by rw [he]; simp [h1], h2⟩
  obtain ⟨dst, op, type, pos, after, guard⟩ := o
  cases op <;> simp only [readE] at hl <;> first | (cases hl; done) | skip
  case load t x =>
    unfold rLoad at hl
    rw [ob_some] at hl
    obtain ⟨p, hp, hl⟩ := hl
    obtain ⟨ad, h1, h2⟩ := loadE_sound s (c.opv hp) hl
    refine lift rfl ?_
    obtain ⟨v', h3, h4⟩ := h2
    exact ⟨v', by simp [Instr.loadAt, h1, Instr.sureAddr, h3], h4⟩
  case lookup t x k ok => exact lift rfl (lookup_sound c s hl)
  case entry x => exact lift rfl (entry_sound c s hl)
  case convert st dt x => exact lift rfl (bytes_sound c s hl)
end
end Go.Ev
