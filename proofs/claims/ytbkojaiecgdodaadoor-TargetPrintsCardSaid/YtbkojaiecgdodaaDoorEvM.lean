/- A part of an evaluator of runs, and that it is right. -/
import Derived.Test.YtbkojaiecgdodaaDoorEvS
import Derived.Laws.BytesString
import Derived.Laws.IdiomStrings
set_option linter.unusedVariables false
set_option linter.unusedSimpArgs false
set_option linter.unusedSectionVars false
namespace Go.Ev
variable [Den]
section
variable {P : Program} {eqs : List Nat} {clone : Sp} {n0 ng : Nat} {ρ : Rho} {h : H} {α : A} {a : Act} {w : World}

theorem same_sound {u : TypeDesc} {k k' e e' : Value} {b : Bool} (hs : scalarD u k = true) (hk : VR ρ k k') (he : VR ρ e e') (h : eqK k e = some b) : Instr.sameNow u k' e' = some b := by
  unfold eqK at h
  split at h
  · rw [bi_some_none] at h
    obtain ⟨h1, h2⟩ := h
    rw [kEq_iff] at h1; subst h1
    injection h2 with h2; subst h2
    cases hk; cases he
    cases u <;> simp only [scalarD] at hs <;> first | (cases hs; done) | simp [Instr.sameNow, ieq_eq]
  · injection h with h; subst h
    cases hk; cases he
    cases u <;> simp only [scalarD] at hs <;> first | (cases hs; done) | skip
    simp only [Instr.sameNow, bytesEq_eq, beq_toListBytes, toList_strL]
  · injection h with h; subst h
    cases hk; cases he
    cases u <;> simp only [scalarD] at hs <;> first | (cases hs; done) | simp [Instr.sameNow, beqB_eq]
  · cases h

theorem checkKey_sound {t : TypeId} {u : TypeDesc} {k k' : Value} (hu : P.underlying t = some u) (hs : scalarD u k = true) (hk : VR ρ k k') (e : Bool) (d : Nat) :
    (Instr.checkKey e (d + 1) t k').run P w = .ok () w := by
  unfold scalarD at hs
  split at hs <;> first | (cases hs; done) | skip
  all_goals cases hk; simp [Instr.checkKey, run_underlying hu]

theorem eqK_bits {u : TypeDesc} {k k' e e' : Value} (hs : scalarD u k = true) (hk : VR ρ k k') (he : VR ρ e e') (h : eqK k e = some true) (n : Nat) : Instr.sameBits (n + 1) e' k' = true := by
  unfold eqK at h
  split at h
  · rw [bi_some_none] at h
    obtain ⟨h1, h2⟩ := h
    rw [kEq_iff] at h1; subst h1
    injection h2 with h2
    cases hk; cases he
    have := ieq_iff.1 h2
    subst this
    simp [Instr.sameBits]
  · injection h with h
    cases hk; cases he
    rename_i a b
    rw [bytesEq_eq] at h
    have : a = b := by
      obtain ⟨⟨a⟩⟩ := a
      obtain ⟨⟨b⟩⟩ := b
      have : a = b := by simpa [strL] using h
      rw [this]
    subst this
    simp [Instr.sameBits, beq_toListBytes]
  · injection h with h
    cases hk; cases he
    rw [beqB_eq] at h
    simp at h; subst h
    simp [Instr.sameBits]
  · cases h
theorem eqK_same {a b a' b' : Value} (ha : VR ρ a a') (hb : VR ρ b b') (h : eqK a b = some true) (n : Nat) : Instr.sameBits (n + 1) a' b' = true := by
  unfold eqK at h
  split at h
  · rw [bi_some_none] at h
    obtain ⟨h1, h2⟩ := h
    rw [kEq_iff] at h1; subst h1
    injection h2 with h2
    cases ha; cases hb
    have := ieq_iff.1 h2
    subst this
    simp [Instr.sameBits]
  · injection h with h
    cases ha; cases hb
    rename_i a b
    rw [bytesEq_eq] at h
    have : a = b := by
      obtain ⟨⟨a⟩⟩ := a
      obtain ⟨⟨b⟩⟩ := b
      have : a = b := by simpa [strL] using h
      rw [this]
    subst this
    simp [Instr.sameBits, beq_toListBytes]
  · injection h with h
    cases ha; cases hb
    rw [beqB_eq] at h
    simp at h; subst h
    simp [Instr.sameBits]
  · cases h
/-- what is known of the key of an entry: at once (scalars), or by a comparison -/
def KR (P : Program) (kt : TypeId) (u : TypeDesc) (k' : Value) (now : Bool) (e' : Value) (b : Bool) : Prop :=
  if now then Instr.sameNow u k' e' = some b else Instr.sameNow u k' e' = none ∧ ∀ w, (Op.equal kt k' e').run P w = .ok b w
structure KeyRel (P : Program) (ρ : Rho) (kt : TypeId) (u : TypeDesc) (k' : Value) (eq : Value → Option Bool) (now : Bool) : Prop where
  und : ∀ w, (underlying kt).run P w = .ok u w
  chk : ∀ e w, (Instr.checkKey e 10000 kt k').run P w = .ok () w
  rel : ∀ e e' b, VR ρ e e' → eq e = some b → KR P kt u k' now e' b
  bits : ∀ e e', VR ρ e e' → eq e = some true → Instr.sameBits 10000 e' k' = true
section
variable {kt : TypeId} {u : TypeDesc} {k' : Value} {eq : Value → Option Bool} {now : Bool}
theorem fa_none : ∀ (es' : List MapEntry) (i : Nat) (w : World), (∀ e ∈ es', KR P kt u k' false e.key false) → (Instr.findAsking kt k' es' i).run P w = .ok none w := by
  intro es'
  induction es' with
  | nil => intro i w _; simp [Instr.findAsking]
  | cons e l ih =>
    intro i w h
    have h1 := (h e (by simp)).2 w
    simp only [Instr.findAsking, Sem.run_bind, h1, Result.andThen_ok]
    simpa using ih (i + 1) w fun q hq => h q (by simp [hq])
theorem fa_some {e : MapEntry} {post : List MapEntry} : ∀ (pre : List MapEntry) (i : Nat) (w : World), (∀ e ∈ pre, KR P kt u k' false e.key false) → KR P kt u k' false e.key true → (Instr.findAsking kt k' (pre ++ e :: post) i).run P w = .ok (some (i + pre.length, e.val)) w := by
  intro pre
  induction pre with
  | nil =>
    intro i w _ h
    have h1 := h.2 w
    simp [Instr.findAsking, h1]
  | cons q l ih =>
    intro i w h h2
    have h1 := (h q (by simp)).2 w
    have := ih (i + 1) w (fun q hq => h q (by simp [hq])) h2
    simp only [List.cons_append, Instr.findAsking, Sem.run_bind, h1, Result.andThen_ok]
    simp only [Bool.false_eq_true, if_false, this, List.length_cons]
    rw [Nat.add_assoc, Nat.add_comm 1]
theorem fn_none : ∀ (es' : List MapEntry) (i : Nat), (∀ e ∈ es', KR P kt u k' true e.key false) → Instr.findNow u k' es' i = some none := by
  intro es'
  induction es' with
  | nil => intro i _; rfl
  | cons e l ih =>
    intro i h
    have h1 : Instr.sameNow u k' e.key = some false := h e (by simp)
    simp only [Instr.findNow, h1]
    exact ih (i + 1) fun q hq => h q (by simp [hq])
theorem fn_some {e : MapEntry} {post : List MapEntry} : ∀ (pre : List MapEntry) (i : Nat), (∀ e ∈ pre, KR P kt u k' true e.key false) → KR P kt u k' true e.key true → Instr.findNow u k' (pre ++ e :: post) i = some (some (i + pre.length, e.val)) := by
  intro pre
  induction pre with
  | nil =>
    intro i _ h
    have h1 : Instr.sameNow u k' e.key = some true := h
    simp [Instr.findNow, h1]
  | cons q l ih =>
    intro i h h2
    have h1 : Instr.sameNow u k' q.key = some false := h q (by simp)
    have := ih (i + 1) (fun q hq => h q (by simp [hq])) h2
    simp only [List.cons_append, Instr.findNow, h1, this, List.length_cons]
    rw [Nat.add_assoc, Nat.add_comm 1]
theorem fk_none (K : KeyRel P ρ kt u k' eq now) {es' : List MapEntry} (h : ∀ e ∈ es', KR P kt u k' now e.key false) (w : World) : (Instr.findKey kt k' es').run P w = .ok none w := by
  cases now with
  | true => simp [Instr.findKey, K.und w, fn_none es' 0 h]
  | false =>
    cases es' with
    | nil => simp [Instr.findKey, K.und w, Instr.findNow]
    | cons e l =>
      have h1 : Instr.sameNow u k' e.key = none := (h e (by simp)).1
      have h2 := fa_none (e :: l) 0 w h
      simp [Instr.findKey, K.und w, Instr.findNow, h1, h2]
theorem fk_some (K : KeyRel P ρ kt u k' eq now) {pre post : List MapEntry} {e : MapEntry} (h : ∀ e ∈ pre, KR P kt u k' now e.key false) (h2 : KR P kt u k' now e.key true) (w : World) : (Instr.findKey kt k' (pre ++ e :: post)).run P w = .ok (some (pre.length, e.val)) w := by
  cases now with
  | true => simp [Instr.findKey, K.und w, fn_some (post := post) pre 0 h h2]
  | false =>
    have h3 := fa_some (post := post) pre 0 w h h2
    have h1 : Instr.findNow u k' (pre ++ e :: post) 0 = none := by
      cases pre with
      | nil => simp [Instr.findNow, h2.1]
      | cons q l =>
        have : Instr.sameNow u k' q.key = none := (h q (by simp)).1
        simp [Instr.findNow, this]
    simp [Instr.findKey, K.und w, h1, h3]
theorem findE_cons (e : Value × Value × Nat) (l : List (Value × Value × Nat)) : findE eq (e :: l) = ob (eq e.1) fun b => bi b (some (some e.2.1)) (findE eq l) := rfl
theorem findE_sound (K : KeyRel P ρ kt u k' eq now) : ∀ {es : List (Value × Value × Nat)} {es' : List MapEntry} {f : Option Value}, ER ρ es es' → findE eq es = some f →
    (f = none ∧ ∀ e ∈ es', KR P kt u k' now e.key false) ∨ ∃ v pre e post, f = some v ∧ es' = pre ++ e :: post ∧ (∀ e ∈ pre, KR P kt u k' now e.key false) ∧ KR P kt u k' now e.key true ∧ VR ρ v e.val := by
  intro es es' f he
  induction he with
  | nil => intro h; injection h with h; exact Or.inl ⟨h.symm, by simp⟩
  | cons k1 v1 k2 v2 n l m hk1 hv1 _ ih =>
    intro h
    rw [findE_cons, ob_some] at h
    obtain ⟨b, hb, h⟩ := h
    have hsame := K.rel _ _ _ hk1 hb
    cases b
    · rcases ih h with ⟨h1, h2⟩ | ⟨v, pre, e, post, h1, h2, h3, h4, h5⟩
      · exact Or.inl ⟨h1, by intro e he; rcases List.mem_cons.1 he with rfl | he; exact hsame; exact h2 e he⟩
      · exact Or.inr ⟨v, ⟨k2, v2, n⟩ :: pre, e, post, h1, by rw [h2]; rfl, by intro e he; rcases List.mem_cons.1 he with rfl | he; exact hsame; exact h3 e he, h4, h5⟩
    · injection h with h
      exact Or.inr ⟨v1, [], ⟨k2, v2, n⟩, _, h.symm, rfl, by simp, hsame, hv1⟩
theorem updE_cons (k v : Value) (c : Nat) (e : Value × Value × Nat) (l : List (Value × Value × Nat)) :
    updE eq k v c (e :: l) = ob (eq e.1) fun b => bi b (some ((k, v, e.2.2) :: l, c)) (om (updE eq k v c l) fun r => (e :: r.1, r.2)) := rfl
theorem updE_sound {k v v' : Value} {c : Nat} (K : KeyRel P ρ kt u k' eq now) (hk : VR ρ k k') (hv : VR ρ v v') : ∀ {es : List (Value × Value × Nat)} {es' : List MapEntry} {r : List (Value × Value × Nat) × Nat}, ER ρ es es' → updE eq k v c es = some r →
    ((∀ e ∈ es', KR P kt u k' now e.key false) ∧ ER ρ r.1 (es' ++ [⟨k', v', c⟩]) ∧ r.2 = c + 1) ∨
    ∃ pre e post, es' = pre ++ e :: post ∧ (∀ e ∈ pre, KR P kt u k' now e.key false) ∧ KR P kt u k' now e.key true ∧ Instr.sameBits 10000 e.key k' = true ∧ ER ρ r.1 (es'.modify pre.length fun e => { e with key := k', val := v' }) ∧ r.2 = c := by
  intro es es' r he
  induction he generalizing r with
  | nil => intro h; injection h with h; subst h; exact Or.inl ⟨by simp, .cons _ _ _ _ _ _ _ hk hv .nil, rfl⟩
  | cons k1 v1 k2 v2 n l m hk1 hv1 hl ih =>
    intro h
    rw [updE_cons, ob_some] at h
    obtain ⟨b, hb, h⟩ := h
    have hsame := K.rel _ _ _ hk1 hb
    cases b
    · rw [bi_false, om_some] at h
      obtain ⟨r', hr', rfl⟩ := h
      rcases ih hr' with ⟨h1, h2, h3⟩ | ⟨pre, e, post, h1, h2, h3, h4, h5, h6⟩
      · exact Or.inl ⟨by intro e he; rcases List.mem_cons.1 he with rfl | he; exact hsame; exact h1 e he, .cons _ _ _ _ _ _ _ hk1 hv1 h2, h3⟩
      · refine Or.inr ⟨⟨k2, v2, n⟩ :: pre, e, post, by rw [h1]; rfl, by intro e he; rcases List.mem_cons.1 he with rfl | he; exact hsame; exact h2 e he, h3, h4, ?_, h6⟩
        simpa using ER.cons _ _ _ _ _ _ _ hk1 hv1 h5
    · injection h with h; subst h
      refine Or.inr ⟨[], ⟨k2, v2, n⟩, m, rfl, by simp, hsame, K.bits _ _ hk1 hb, ?_, rfl⟩
      simpa using ER.cons _ _ _ _ n _ _ hk hv hl
end
/-- scalars -/
theorem keyRel_scalar {kt : TypeId} {rk : TR} {k k' : Value} (hr : (Env.of P eqs clone).ty.get kt = some rk) (hs : scalarD rk.u k = true) (hk : VR ρ k k') : KeyRel P ρ kt rk.u k' (eqK k) true := by
  obtain ⟨_, _, huk, _, _, _⟩ := ty_spec hr
  exact ⟨fun w => run_under hr, fun e w => checkKey_sound (w := w) huk hs hk e 9999, fun e e' b he h => same_sound hs hk he h, fun e e' he h => eqK_bits hs hk he h 9999⟩
theorem bitsL_sound : ∀ {x y x' y' : List Value}, VRs ρ x x' → VRs ρ y y' → bitsL x y = true → x'.length = y'.length ∧ ∀ n, (x'.zip y').all (fun p => Instr.sameBits (n + 1) p.1 p.2) = true := by
  intro x
  induction x with
  | nil =>
    intro y x' y' hx hy h
    cases y with
    | nil => cases hx; cases hy; exact ⟨rfl, fun _ => rfl⟩
    | cons b m => cases h
  | cons a l ih =>
    intro y x' y' hx hy h
    cases y with
    | nil => cases h
    | cons b m =>
      cases hx with
      | cons _ wa _ la h1 h2 => cases hy with
        | cons _ wb _ lb h3 h4 =>
          unfold bitsL at h
          split at h
          · rename_i he
            obtain ⟨e1, e2⟩ := ih h2 h4 h
            refine ⟨by simp [e1], fun n => ?_⟩
            have := eqK_same h1 h3 he n
            simp [this]
            simpa using e2 n
          · cases h
theorem eqK_refl {u : Value} {b : Bool} (h : eqK u u = some b) : b = true := by
  cases u <;> first | (cases h; done) | skip
  · injection h with h; subst h; simp [beqB_eq]
  · rename_i k n
    have h : bi (kEq k k) (some (ieq n n)) none = some b := h
    rw [bi_some_none] at h
    obtain ⟨_, h⟩ := h
    injection h with h; subst h
    simp [ieq_eq]
  · injection h with h; subst h; simp [bytesEq_eq]
theorem keyE_agg {E : Env} {kt : TypeId} {x : List Value} {e : Value} {b : Bool} (h : keyE E kt (.agg ⟨x⟩) e = some b) :
    ∃ y, e = .agg ⟨y⟩ ∧ eqAgg E kt x y = some b ∧ (b = true → bitsL y x = true) := by
  unfold keyE at h
  cases e <;> first | (cases h; done) | skip
  rename_i cs
  obtain ⟨y⟩ := cs
  have h : (ob (eqAgg E kt x y) fun b => bi b (bi (bitsL y x) (some true) none) (some false)) = some b := h
  rw [ob_some] at h
  obtain ⟨b0, h0, h⟩ := h
  refine ⟨y, rfl, ?_⟩
  cases b0
  · injection h with h; subst h; exact ⟨h0, fun e => by cases e⟩
  · rw [bi_true, bi_some_none] at h
    obtain ⟨h1, h⟩ := h
    injection h with h; subst h
    exact ⟨h0, fun _ => h1⟩
theorem chk_fields {x' : Array Value} {x : List Value} (hx : VRs ρ x x'.toList) (em : Bool) (d : Nat) (w : World) : ∀ {fs : List Field}, (∃ b, eqStruct (Env.of P eqs clone) (fun _ _ _ => none) x x fs = some b) →
    (forIn fs PUnit.unit (fun f _ => (do
      if f.name ≠ "_" then Instr.checkKey em (d + 1) f.type (← part f.type x' f.offset)
      pure (ForInStep.yield PUnit.unit) : Sem (ForInStep PUnit)))).run P w = .ok () w := by
  intro fs
  induction fs with
  | nil => intro _; simp
  | cons f fs ih =>
    intro ⟨b, h⟩
    rw [eqStruct_cons, ob_some] at h
    obtain ⟨r, hr, h⟩ := h
    cases hag : isAggD r.u
    · rw [hag, bi_false, ob_some] at h
      obtain ⟨u, hu, h⟩ := h
      rw [ob_some] at h
      obtain ⟨v, hv, h⟩ := h
      rw [bi_some_none, ob_some] at h
      obtain ⟨hs, e, he, h⟩ := h
      obtain ⟨u', hu', hru⟩ := hx.get hu
      obtain ⟨i, h1, h2, h3, h4, _⟩ := ty_spec hr
      have p1 : (part f.type x' f.offset).run P w = .ok u' w := by
        have : x'[f.offset]? = some u' := by simpa using hu'
        simp [part, run_agg hr, hag, this]
      have p2 := checkKey_sound (w := w) h2 hs hru em d
      have hrest : ∃ b, eqStruct (Env.of P eqs clone) (fun _ _ _ => none) x x fs = some b := by
        rw [hv] at hu; injection hu with hu; subst hu
        have : e = true := eqK_refl he
        subst this
        exact ⟨b, h⟩
      have := ih hrest
      rw [List.forIn_cons]
      by_cases hn : f.name = "_"
      · simp [hn]; simpa using this
      · simp [hn, p1, p2]; simpa using this
    · rw [hag, bi_true, bi_some_none, bi_some_none, ob_some] at h
      obtain ⟨_, _, e, he, h⟩ := h
      cases he
theorem chk_struct {kt : TypeId} {fs : Array Field} (hu : P.underlying kt = some (.struct fs)) {x' x : List Value} (hx : VRs ρ x x') (em : Bool) (d : Nat) (w : World) (h : ∃ b, eqStruct (Env.of P eqs clone) (fun _ _ _ => none) x x fs.toList = some b) :
    (Instr.checkKey em (d + 1 + 1) kt (.agg ⟨x'⟩)).run P w = .ok () w := by
  have := chk_fields (x' := ⟨x'⟩) hx em d w h
  obtain ⟨fs⟩ := fs
  rw [Instr.checkKey]
  simp only [Sem.run_bind, run_underlying hu, Result.andThen_ok]
  simp at this ⊢
  rw [this]
  rfl
/-- keys: scalars, or structs of scalars -/
theorem keyRel_of (ceq : ∀ t, t ∈ eqs → EqOk P t) {kt : TypeId} {rk : TR} {k k' : Value} (hr : (Env.of P eqs clone).ty.get kt = some rk) (hs : keyOk (Env.of P eqs clone) rk.u k = true) (hk : VR ρ k k') :
    ∃ now, KeyRel P ρ kt rk.u k' (keyE (Env.of P eqs clone) kt k) now := by
  unfold keyOk at hs
  split at hs
  · rename_i x
    split at hs
    · rename_i fs hu
      split at hs
      · rename_i b hb
        obtain ⟨_, _, huk, _, _, _⟩ := ty_spec hr
        rw [hu] at huk
        cases hk with
        | agg _ x' hx =>
          refine ⟨false, fun w => run_under hr, fun em w => chk_struct huk hx em 9998 w ⟨_, hb⟩, fun e e' b he h => ?_, fun e e' he h => ?_⟩
          · obtain ⟨y, rfl, h0, _⟩ := keyE_agg h
            cases he with
            | agg _ y' hy =>
              refine ⟨by rw [hu]; rfl, fun w => (eqAggN_sound (P := P) (clone := clone) (w := w) ceq 5 9999 (by omega) kt x y x' y' b hx hy h0).2⟩
          · obtain ⟨y, rfl, _, h1⟩ := keyE_agg h
            cases he with
            | agg _ y' hy =>
              obtain ⟨e1, e2⟩ := bitsL_sound hy hx (h1 rfl)
              rw [Instr.sameBits]
              simp [e1]
              simpa using e2 9998
      · cases hs
    · cases hs
  · rename_i hna
    have e : keyE (Env.of P eqs clone) kt k = eqK k := by
      funext e
      unfold keyE
      split
      · rename_i x; exact (hna x rfl).elim
      · rfl
    rw [e]
    exact ⟨true, keyRel_scalar hr hs hk⟩

theorem mapAt_sound (s : Sim ng n0 ρ h w) {b B base : Nat} {e : List (Value × Value × Nat) × Nat} (hb : ρ b = some (B, base)) (hm : mapAt h b = some e) :
    ∃ es', h.bl.get b = some (.mp e.1 e.2) ∧ n0 ≤ B ∧ base = 0 ∧ w.heap[B]? = some (.map ⟨es'⟩ e.2) ∧ ER ρ e.1 es' := by
  unfold mapAt at hm
  rw [ob_some] at hm
  obtain ⟨x, hx, hm⟩ := hm
  split at hm
  · injection hm with hm; subst hm
    obtain ⟨B', es', h1, h2, h3, h4⟩ := s.maps _ _ _ hx
    rw [h1] at hb; injection hb with hb; injection hb with hb1 hb2; subst hb1; subst hb2
    exact ⟨es', hx, h2, rfl, h3, h4⟩
  · cases hm

theorem zeroOf_sound {e : TypeId} {z : Value} (hz : zeroOf (Env.of P eqs clone) e = some z) : (zeroValue e).run P w = .ok z w ∧ VR ρ z z := by
  unfold zeroOf at hz
  rw [ob_some] at hz
  obtain ⟨re, hre, hz⟩ := hz
  rw [ob_some] at hz
  obtain ⟨z', hz', hz⟩ := hz
  rw [bi_some_none] at hz
  obtain ⟨hfl, hz⟩ := hz
  injection hz with hz; subst hz
  exact ⟨run_zero hre hz', flat_VR hfl⟩

theorem lookup_sound (c : Ctx P eqs ρ α a) (s : Sim ng n0 ρ h w) {t : TypeId} {x y : Operand} {ok : Bool} {v : Value} (hl : rLookup t x y ok (Env.of P eqs clone) α h = some v) :
    Y P (Instr.lookup t (a.eval x) (a.eval y) ok) ρ v w := by
  unfold rLookup at hl
  rw [ob_some] at hl
  obtain ⟨m, hm, hl⟩ := hl
  rw [ob_some] at hl
  obtain ⟨k, hk, hl⟩ := hl
  rw [ob_some] at hl
  obtain ⟨r, hr, hl⟩ := hl
  have hm' := c.opv hm
  have hk' := c.opv hk
  generalize a.eval x = ex at *
  generalize a.eval y = ey at *
  split at hl
  · rename_i kt e mo hty
    rw [ob_some] at hl
    obtain ⟨rk, hrk, hl⟩ := hl
    rw [bi_some_none, ob_some] at hl
    obtain ⟨hs, es, hes, hl⟩ := hl
    rw [ob_some] at hl
    obtain ⟨f, hf, hl⟩ := hl
    obtain ⟨now, K⟩ := keyRel_of c.eq hrk hs hk'
    have hck := fun e => K.chk e w
    cases mo with
    | none =>
      injection hes with hes; subst hes; cases hm'
      injection hf with hf; subst hf
      have hn := fk_none K (es' := []) (by simp) w
      simp only [om_some] at hl
      obtain ⟨z, hz, rfl⟩ := hl
      obtain ⟨hz, hfl⟩ := zeroOf_sound (w := w) hz
      refine ⟨if ok then .tuple #[z, .bool false] else z, ?_, ?_⟩
      · simp [Instr.lookup, run_under hr, hty, hck, hn, hz]
      · cases ok
        · exact hfl
        · exact .tuple _ _ (.cons _ _ _ _ hfl (.cons _ _ _ _ (.bool _) .nil))
    | some b =>
      simp only [om_some] at hes
      obtain ⟨e', he', rfl⟩ := hes
      cases hm' with
      | map b B hb =>
        obtain ⟨es', h1, h2, _, h3, hER⟩ := mapAt_sound s hb he'
        have hg : (getObj B).run P w = .ok (.map ⟨es'⟩ e'.2) w := run_getObj_map (w := w) B _ _ h3
        rcases findE_sound K hER hf with ⟨rfl, h1⟩ | ⟨u, pre, en, post, rfl, rfl, h1, h1', h2⟩
        · simp only [om_some] at hl
          obtain ⟨z, hz, rfl⟩ := hl
          obtain ⟨hz, hfl⟩ := zeroOf_sound (w := w) hz
          refine ⟨if ok then .tuple #[z, .bool false] else z, ?_, ?_⟩
          · simp [Instr.lookup, run_under hr, hty, hck, fk_none K h1 w, hz, hg]
          · cases ok
            · exact hfl
            · exact .tuple _ _ (.cons _ _ _ _ hfl (.cons _ _ _ _ (.bool _) .nil))
        · injection hl with hl; subst hl
          have hs2 := fk_some K (post := post) h1 h1' w
          refine ⟨if ok then .tuple #[en.val, .bool true] else en.val, ?_, ?_⟩
          · simp [Instr.lookup, run_under hr, hty, hck, hs2, hg]
          · cases ok
            · exact h2
            · exact .tuple _ _ (.cons _ _ _ _ h2 (.cons _ _ _ _ (.bool _) .nil))
  · cases hl

theorem bornE_sound {n : Nat} {es : List (Value × Value × Nat)} {es' : List MapEntry} {v : Value} (he : ER ρ es es') (h : bornE n es = some v) :
    ∃ e, es'.find? (·.born == n) = some e ∧ VR ρ v (.tuple #[e.key, e.val]) := by
  induction he with
  | nil => cases h
  | cons k1 v1 k2 v2 m l l' hk hv _ ih =>
    simp only [bornE] at h
    rw [bi_eq] at h
    split at h
    · rename_i h1
      have h1 := Nat.eq_of_beq_eq_true h1
      subst h1
      injection h with h; subst h
      exact ⟨⟨k2, v2, m⟩, by simp, .tuple _ _ (.cons _ _ _ _ hk (.cons _ _ _ _ hv .nil))⟩
    · rename_i h1
      have h1 : ¬ m = n := fun e => h1 (by simp [e])
      obtain ⟨e, h2, h3⟩ := ih h
      have h1' : (m == n) = false := by simpa using h1
      exact ⟨e, by rw [List.find?_cons]; simp [h1', h2], h3⟩

theorem entry_sound (c : Ctx P eqs ρ α a) (s : Sim ng n0 ρ h w) {x : Operand} {v : Value} (hl : rEntry x (Env.of P eqs clone) α h = some v) :
    Y P (Instr.entry (a.eval x)) ρ v w := by
  unfold rEntry at hl
  rw [ob_some] at hl
  obtain ⟨p, hp, hl⟩ := hl
  have hp' := c.opv hp
  generalize a.eval x = ex at *
  split at hl
  · rename_i b
    rw [ob_some] at hl
    obtain ⟨y, hy, hl⟩ := hl
    split at hl
    · rename_i m sn seen last
      rw [ob_some] at hl
      obtain ⟨st, hst, hl⟩ := hl
      rw [ob_some] at hl
      obtain ⟨e, he, hl⟩ := hl
      rw [bi_some_none] at hl
      obtain ⟨hck, hl⟩ := hl
      have hck := Nat.eq_of_beq_eq_true hck
      cases hp' with
      | ptr b o B base hb =>
        obtain ⟨B', h1, h2, h3⟩ := s.iters _ _ _ _ _ hy
        rw [h1] at hb; injection hb with hb; injection hb with hb1 hb2; subst hb1; subst hb2
        rcases h3 with ⟨h3, _⟩ | ⟨k, M, h3, h4, h5⟩
        · cases h3
        · injection h3 with h3; subst h3
          obtain ⟨es', _, _, _, h6, hER⟩ := mapAt_sound s h4 he
          obtain ⟨e', h7, h8⟩ := bornE_sound hER hl
          refine ⟨_, ?_, h8⟩
          have hg : (getObj M).run P w = .ok (.map ⟨es'⟩ e.2) w := run_getObj_map (w := w) M _ _ h6
          have hg2 : (getObj B').run P w = .ok (.mapIter (some M) sn ⟨seen⟩ last) w := by simp [getObj, Sem.run, h5]
          have hb2 : (⟨seen⟩ : Array Nat).back? = some st := by simpa using hst
          simp [Instr.entry, hg2, hb2, hg, hck, h7]
    · cases hl
  · cases hl

theorem bytesV_sound : ∀ {l l' : List Value} {bs : List UInt8}, VRs ρ l l' → bytesV l = some bs → ∃ ns : List Int, l' = ns.map (Value.int .u8) ∧ ns.map (fun n => UInt8.ofNat n.toNat) = bs := by
  intro l
  induction l with
  | nil => intro l' bs hv h; cases hv; injection h with h; subst h; exact ⟨[], rfl, rfl⟩
  | cons v l ih =>
    intro l' bs hv h
    unfold bytesV at h
    split at h
    · rename_i n
      rw [om_some] at h
      obtain ⟨bs', h1, rfl⟩ := h
      cases hv with
      | cons _ w _ m h2 h3 =>
        cases h2
        obtain ⟨ns, rfl, e⟩ := ih h3 h1
        exact ⟨Int.ofNat n :: ns, rfl, by rw [List.map_cons, e]; rfl⟩
    · cases h
theorem foldl_bytes : ∀ (ns : List Int) (s : ByteArray), ns.foldl (fun r n => r.push (UInt8.ofNat n.toNat)) s = ⟨s.data ++ (ns.map fun n => UInt8.ofNat n.toNat).toArray⟩
  | [], s => by simp
  | n :: ns, s => by
    rw [List.foldl_cons, foldl_bytes ns]
    simp [ByteArray.push]
theorem bytes_sound (c : Ctx P eqs ρ α a) (s : Sim ng n0 ρ h w) {st dt : TypeId} {x : Operand} {v : Value} (hl : rBytes st dt x (Env.of P eqs clone) α h = some v) : Y P (convert st dt (a.eval x)) ρ v w := by
  unfold rBytes at hl
  rw [ob_some] at hl
  obtain ⟨u, hu, hl⟩ := hl
  rw [ob_some] at hl
  obtain ⟨rs, hrs, hl⟩ := hl
  rw [ob_some] at hl
  obtain ⟨rd, hrd, hl⟩ := hl
  have hu' := c.opv hu
  generalize a.eval x = ex at *
  split at hl
  · rename_i e ad n cp hs hd
    rw [ob_some] at hl
    obtain ⟨re, hre, hl⟩ := hl
    split at hl
    · rename_i he
      obtain ⟨_, _, hrs', _, _, _⟩ := ty_spec hrs
      obtain ⟨_, _, hrd', _, _, _⟩ := ty_spec hrd
      obtain ⟨_, _, hre', _, _, _⟩ := ty_spec hre
      rw [hs] at hrs'; rw [hd] at hrd'; rw [he] at hre'
      have hnil : ByteArray.empty = ⟨⟨[]⟩⟩ := rfl
      split at hl
      · injection hl with hl; subst hl
        cases hu'
        refine ⟨_, ?_, .string _⟩
        rw [run_convert_bytes_string w st dt e _ _ _ hrs' hre' hrd']
        simp [Conv.bytesToString, hnil]
      · rename_i b o
        rw [ob_some] at hl
        obtain ⟨t, ht, hl⟩ := hl
        rw [ob_some] at hl
        obtain ⟨l, hgl, hl⟩ := hl
        rw [om_some] at hl
        obtain ⟨bs, hbs, rfl⟩ := hl
        cases hu' with
        | slice _ _ _ _ B base c' hb _ _ =>
          obtain ⟨l', h1, h2, _⟩ := load_cells (P := P) hgl (cellsAt_sound s hb ht)
          obtain ⟨ns, rfl, e2⟩ := bytesV_sound h2 hbs
          refine ⟨_, ?_, .string _⟩
          rw [run_convert_bytes_string w st dt e _ _ _ hrs' hre' hrd', run_bytesToString w _ _ _ ns h1, foldl_bytes, e2, hnil]
          simp
        | slice0 _ _ a' c' _ =>
          injection hgl with hgl; subst hgl
          injection hbs with hbs; subst hbs
          refine ⟨_, ?_, .string _⟩
          rw [run_convert_bytes_string w st dt e _ _ _ hrs' hre' hrd', run_bytesToString w _ _ _ [] (by simp [loadCells, loadCellsFrom])]
          rfl
      · cases hl
    · cases hl
  · cases hl

theorem read_sound (c : Ctx P eqs ρ α a) (s : Sim ng n0 ρ h w) {o : Oper} {v : Value} (hl : readE o.op (Env.of P eqs clone) α h = some v) :
    ∃ v', (execOp a.eval o).run P w = .ok (.value v') w ∧ VR ρ v v' := by
  have lift : ∀ {s : Sem Value}, execOp a.eval o = (do pure (.value (← s))) → Y P s ρ v w → ∃ v', (execOp a.eval o).run P w = .ok (.value v') w ∧ VR ρ v v' := by
    intro s he ⟨v', h1, h2⟩
    exact ⟨v', by rw [he]; simp [h1], h2⟩
  unfold readE at hl
  cases hk : knownO (Env.of P eqs clone).loads o.op (Env.of P eqs clone) α with
  | some u =>
    rw [hk] at hl
    injection hl with hl; subst hl
    obtain ⟨d, hd, h1, ⟨args, ha, h2⟩, rfl⟩ := knownO_spec hk
    have ok := c.loads d hd
    exact ⟨_, ok.run o a.eval w (Nat.le_trans s.lowOk.low s.low) s.lowOk.fix h1 (caEqL_dvs h2 (c.opvs ha)).symm, okV_VR ok.val⟩
  | none =>
  rw [hk] at hl
  replace hl : readE0 o.op (Env.of P eqs clone) α h = some v := hl
  clear hk
  obtain ⟨dst, op, type, pos, after, guard⟩ := o
  cases op <;> simp only [readE0] at hl <;> first | (cases hl; done) | skip
  case load t x =>
    unfold rLoad at hl
    rw [ob_some] at hl
    obtain ⟨p, hp, hl⟩ := hl
    obtain ⟨ad, h1, h2⟩ := loadE_sound s (c.opv hp) hl
    refine lift rfl ?_
    obtain ⟨v', h3, h4⟩ := h2
    exact ⟨v', by simp [Instr.loadAt, h1, Instr.sureAddr, h3], h4⟩
  case lookup t x k ok => exact lift rfl (lookup_sound c s hl)
  case entry x => exact lift rfl (entry_sound c s hl)
  case convert st dt x => exact lift rfl (bytes_sound c s hl)
end
end Go.Ev
