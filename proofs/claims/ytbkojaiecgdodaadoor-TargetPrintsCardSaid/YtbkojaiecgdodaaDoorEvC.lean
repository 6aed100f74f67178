/- A part of an evaluator of runs, and that it is right. -/
import Derived.Test.YtbkojaiecgdodaaDoorEvR1
set_option linter.unusedVariables false
set_option linter.unusedSimpArgs false
set_option linter.unusedSectionVars false
namespace Go.Ev
variable [Den]
section
variable {P : Program} {eqs : List Nat} {clone : Sp} {n0 ng : Nat} {ρ : Rho} {h : H} {α : A} {a : Act} {w w' : World}

theorem update_sound (c : Ctx P eqs ρ α a) (s : Sim ng n0 ρ h w) {t : TypeId} {m k x : Operand} {cl : CallT} {v : Value} {h' : H} (hl : lUpdate t m k x (Env.of P eqs clone) cl α h = some (v, h')) :
    ∃ w', (Instr.mapUpdate t (a.eval m) (a.eval k) (a.eval x)).run P w = .ok () w' ∧ Post ng n0 ρ h w h' v undef w' := by
  unfold lUpdate at hl
  rw [ob_some] at hl
  obtain ⟨mv, hm, hl⟩ := hl
  rw [ob_some] at hl
  obtain ⟨kv, hk, hl⟩ := hl
  rw [ob_some] at hl
  obtain ⟨xv, hx, hl⟩ := hl
  rw [ob_some] at hl
  obtain ⟨r, hr, hl⟩ := hl
  have hm' := c.opv hm
  have hk' := c.opv hk
  have hx' := c.opv hx
  clear hm hk hx
  generalize a.eval m = em at *
  generalize a.eval k = ek at *
  generalize a.eval x = ex at *
  split at hl
  · rename_i kt et b hty
    rw [ob_some] at hl
    obtain ⟨rk, hrk, hl⟩ := hl
    rw [bi_some_none, ob_some] at hl
    obtain ⟨hs, e, he, hl⟩ := hl
    rw [om_some] at hl
    obtain ⟨u, hu, hl⟩ := hl
    injection hl with e1 e2; subst e1; subst e2
    cases hm' with
    | map b B hb =>
      obtain ⟨es', h1, h2, _, h3, hER⟩ := mapAt_sound s hb he
      obtain ⟨now, K⟩ := keyRel_of c.eq hrk hs hk'
      have hg : (getObj B).run P w = .ok (.map ⟨es'⟩ e.2) w := run_getObj_map (w := w) B _ _ h3
      have hck := fun q => K.chk q w
      have hset : ∀ o, (setObj B o).run P w = .ok () { w with heap := w.heap.setIfInBounds B o } := fun o => by simp [setObj, Sem.run, h3]
      rcases updE_sound (c := e.2) K hk' hx' hER hu with ⟨k1, k2, k3⟩ | ⟨pre, ent, post, rfl, k1, k1', k3, k4, k5⟩
      · obtain ⟨s1, s2⟩ := s.set_obj h1 rfl hb (x := .mp u.1 u.2) (o := .map ⟨es' ++ [⟨ek, ex, e.2⟩]⟩ (e.2 + 1)) rfl
          (fun es k he => by injection he with e1 e2; subst e1; subst e2; exact ⟨_, by rw [k3], k2⟩) (fun _ _ _ _ he => by cases he)
        refine ⟨_, ?_, ρ, s1, s2, .tuple _ _ .nil⟩
        have := fk_none K k1 w
        simp [Instr.mapUpdate, run_under hr, hty, hg, hck, this, hset]
      · have this := fk_some K (post := post) k1 k1' w
        have k2 : (pre ++ ent :: post)[pre.length]? = some ent := by simp
        generalize pre ++ ent :: post = es' at *
        generalize pre.length = j at *
        obtain ⟨s1, s2⟩ := s.set_obj h1 rfl hb (x := .mp u.1 u.2) (o := .map ⟨es'.modify j fun e => { e with key := ek, val := ex }⟩ e.2) rfl
          (fun es k he => by injection he with e1 e2; subst e1; subst e2; exact ⟨_, by rw [k5], k4⟩) (fun _ _ _ _ he => by cases he)
        refine ⟨_, ?_, ρ, s1, s2, .tuple _ _ .nil⟩
        have hks : (Instr.keyThatStays ent.key ek).run P w = .ok ek w := by simp [Instr.keyThatStays, k3]
        have hj : (⟨es'⟩ : Array MapEntry)[j]? = some ent := by simpa using k2
        have hmod : (⟨es'⟩ : Array MapEntry).modify j (fun e => { e with key := ek, val := ex }) = ⟨es'.modify j fun e => { e with key := ek, val := ex }⟩ := by
          apply Array.ext'; simp
        simp only [Instr.mapUpdate, Sem.run_bind, run_under hr, hty, Result.andThen_ok, hg, hck, this, hj, Option.map_some, Option.getD_some, hks, hset, hmod]
  · cases hl

theorem map_sound (s : Sim ng n0 ρ h w) {t : TypeId} {r : Option Operand} {cl : CallT} {v : Value} {h' : H} (hl : lMap t r (Env.of P eqs clone) cl α h = some (v, h')) :
    ∃ v' w', (Instr.makeMap t (r.map a.eval)).run P w = .ok v' w' ∧ Post ng n0 ρ h w h' v v' w' := by
  unfold lMap at hl
  split at hl
  · injection hl with hl; injection hl with e1 e2; subst e1; subst e2
    obtain ⟨s1, s2⟩ := s.add_obj (.mp [] 0) (.map #[] 0) rfl (fun es k he => by injection he with e1 e2; subst e1; subst e2; exact ⟨[], rfl, .nil⟩) (fun _ _ _ _ he => by cases he)
    refine ⟨.map (some w.heap.size), _, ?_, _, s1, s2, .map _ _ (upd_same _ _ _ _ _)⟩
    simp only [Instr.makeMap, Option.map_none, Sem.run_bind, run_newObj, Result.andThen_ok, Sem.run_pure]
  · cases hl

theorem clone_sound (hc : CloneOk P clone) (hz : clone.clone ≠ 0) (s : Sim ng n0 ρ h w) {args args' : List Value} {v : Value} {h' : H} (ha : VRs ρ args args') (hl : cloneE args h = some (v, h')) :
    ∃ v' w', (callFunc clone.clone ⟨args'⟩).run P w = .ok (.value v') w' ∧ Post ng n0 ρ h w h' v v' w' := by
  unfold cloneE at hl
  split at hl
  · rename_i t b
    rw [om_some] at hl
    obtain ⟨e, he, hl⟩ := hl
    injection hl with e1 e2; subst e1; subst e2
    cases ha with
    | cons _ _ _ _ h1 h2 =>
      cases h2
      cases h1 with
      | iface _ _ _ h1 =>
        cases h1 with
        | map b B hb =>
          obtain ⟨es', h1, h2, _, h3, hER⟩ := mapAt_sound s hb he
          obtain ⟨s1, s2⟩ := s.add_obj (.mp e.1 e.2) (.map ⟨es'⟩ e.2) rfl (fun es k he => by injection he with e1 e2; subst e1; subst e2; exact ⟨_, rfl, hER⟩) (fun _ _ _ _ he => by cases he)
          exact ⟨_, _, hc.map hz t B _ _ w h3, _, s1, s2, .iface _ _ _ (.map _ _ (upd_same _ _ _ _ _))⟩
  · cases hl

theorem findB_eq (c : Nat) (hc : c < 256) (L : List UInt8) : ∀ (l : List UInt8) (k : Nat), L.drop k = l → findB c k l = (List.range' k l.length).find? fun i => L.toArray[i]! == (Int.ofNat c).toNat.toUInt8 := by
  intro l
  induction l with
  | nil => intro k _; rfl
  | cons a l ih =>
    intro k hk
    have h0 : L[k]? = some a := by
      have := congrArg (fun q => q[0]?) hk
      simpa using this
    have hk' : L.drop (k + 1) = l := by rw [← List.drop_drop, hk]; rfl
    rw [List.length_cons, List.range'_succ, List.find?_cons]
    have he : (L.toArray[k]! == (Int.ofNat c).toNat.toUInt8) = Nat.beq a.toNat c := by
      have h1 : L.toArray[k]! = a := by simp [getElem!_def, h0]
      rw [h1]
      have h2 : (Int.ofNat c).toNat.toUInt8.toNat = c := by simp [Nat.mod_eq_of_lt hc]
      rw [Bool.eq_iff_iff]
      constructor
      · intro h
        have := eq_of_beq h
        rw [this, h2]; exact Nat.beq_refl c
      · intro h
        have := Nat.eq_of_beq_eq_true h
        have : a = (Int.ofNat c).toNat.toUInt8 := UInt8.toNat_inj.1 (by rw [h2, this])
        rw [this]; exact beq_self_eq_true _
    rw [he]
    simp only [findB]
    cases Nat.beq a.toNat c
    · exact ih (k + 1) hk'
    · rfl
theorem idxE_sound (hc : CloneOk P clone) (hz : clone.idx ≠ 0) (s : Sim ng n0 ρ h w) {args args' : List Value} {v : Value} {h' : H} (ha : VRs ρ args args') (hl : idxE args h = some (v, h')) :
    ∃ v' w', (callFunc clone.idx ⟨args'⟩).run P w = .ok (.value v') w' ∧ Post ng n0 ρ h w h' v v' w' := by
  unfold idxE at hl
  split at hl
  · rename_i str c
    rw [bi_some_none] at hl
    obtain ⟨hc2, hl⟩ := hl
    have hc2 : c < 256 := Nat.le_of_ble_eq_true hc2
    injection hl with hl; injection hl with e1 e2; subst e2
    cases ha with
    | cons _ _ _ _ h1 h2 =>
      cases h2 with
      | cons _ _ _ _ h2 h3 =>
        cases h3; cases h1; cases h2
        have hf := findB_eq c hc2 str.data.toList str.data.toList 0 rfl
        refine ⟨v, w, ?_, ρ, s, Step.refl _ _ _, ?_⟩
        · rw [hc.idx hz]
          have hsz : str.size = str.data.toList.length := (Array.length_toList (xs := str.data)).symm
          have hget : ∀ i : Nat, str[i]! = str.data.toList.toArray[i]! := fun i => by
            by_cases hi : i < str.size
            · have hi' : i < str.data.toList.toArray.size := by simpa using hi
              rw [getElem!_pos str i hi, getElem!_pos str.data.toList.toArray i hi']; rfl
            · have hi' : ¬ i < str.data.toList.toArray.size := fun h => hi (by simpa using h)
              rw [getElem!_neg str i hi, getElem!_neg str.data.toList.toArray i hi']
          rw [← e1]
          have hrun : (Extern.BytealgIndexByte.indexByte ⟨[.string str, .int .u8 (.ofNat c)]⟩).run P w = .ok (match (List.range str.size).find? fun i => str[i]! == (Int.ofNat c).toNat.toUInt8 with | some i => goInt i | none => goInt (-1)) w := by
            show ((do
              let b ← Extern.Bytes.bytesOf (.string str)
              let c ← Extern.Bytes.asByte (.int .u8 (.ofNat c))
              match (List.range b.size).find? fun i => b[i]! == c with
              | some i => pure (goInt i)
              | none => pure (goInt (-1)) : Sem Value)).run P w = _
            simp only [Extern.Bytes.bytesOf, Extern.Bytes.asByte, Sem.run_bind, Sem.run_pure, Result.andThen_ok]
            generalize (List.range str.size).find? (fun i => str[i]! == (Int.ofNat c).toNat.toUInt8) = q
            cases q <;> rfl
          rw [Sem.run_bind, hrun]
          simp only [Result.andThen_ok, Sem.run_pure, hsz, hget, List.range_eq_range', strL]
          rw [← hf]
          cases findB c 0 str.data.toList <;> rfl
        · rw [← e1]; split <;> exact .int _ _
  · cases hl

theorem range_sound (c : Ctx P eqs ρ α a) (s : Sim ng n0 ρ h w) {t : TypeId} {x : Operand} {cl : CallT} {v : Value} {h' : H} (hl : lRange t x (Env.of P eqs clone) cl α h = some (v, h')) :
    ∃ v' w', (Instr.range t (a.eval x)).run P w = .ok v' w' ∧ Post ng n0 ρ h w h' v v' w' := by
  unfold lRange at hl
  rw [ob_some] at hl
  obtain ⟨mv, hm, hl⟩ := hl
  rw [ob_some] at hl
  obtain ⟨r, hr, hl⟩ := hl
  have hm' := c.opv hm
  clear hm
  generalize a.eval x = ex at *
  split at hl
  · rename_i kt et hty
    injection hl with hl; injection hl with e1 e2; subst e1; subst e2
    cases hm'
    obtain ⟨s1, s2⟩ := s.add_obj (.it none 0 [] 0) (.mapIter none 0 #[] 0) rfl (fun _ _ he => by cases he) (fun m sn seen st he => by injection he with e1 e2 e3 e4; subst e1; subst e2; subst e3; subst e4; exact Or.inl ⟨rfl, rfl⟩)
    refine ⟨.pointer (some ⟨w.heap.size, 0, none⟩), _, ?_, _, s1, s2, .ptr _ 0 _ 0 (upd_same _ _ _ _ _)⟩
    simp only [Instr.range, Sem.run_bind, run_under hr, hty, Result.andThen_ok, Sem.run_pure, run_newObj]
  · rename_i kt et b hty
    rw [om_some] at hl
    obtain ⟨e, he, hl⟩ := hl
    injection hl with e1 e2; subst e1; subst e2
    cases hm' with
    | map b B hb =>
      obtain ⟨es', h1, h2, _, h3, hER⟩ := mapAt_sound s hb he
      have hg : (getObj B).run P w = .ok (.map ⟨es'⟩ e.2) w := run_getObj_map (w := w) B _ _ h3
      obtain ⟨s1, s2⟩ := s.add_obj (.it (some b) e.2 [] e.2) (.mapIter (some B) e.2 #[] e.2) rfl (fun _ _ he => by cases he) (fun m sn seen st he => by injection he with e1 e2 e3 e4; subst e1; subst e2; subst e3; subst e4; exact Or.inr ⟨b, B, rfl, hb, rfl⟩)
      refine ⟨.pointer (some ⟨w.heap.size, 0, none⟩), _, ?_, _, s1, s2, .ptr _ 0 _ 0 (upd_same _ _ _ _ _)⟩
      simp only [Instr.range, Sem.run_bind, run_under hr, hty, Result.andThen_ok, hg, Sem.run_pure, run_newObj]
  · cases hl

theorem copy_sound (s : Sim ng n0 ρ h w) {st xt ty : TypeId} {sv x sv' x' v : Value} {h' : H} (hs : VR ρ sv sv') (hx : VR ρ x x') (hl : copyE (Env.of P eqs clone) h st sv x = some (v, h')) :
    ∃ v' w', (Builtin.copy_ #[st, xt] ty #[sv', x']).run P w = .ok v' w' ∧ Post ng n0 ρ h w h' v v' w' := by
  unfold copyE at hl
  rw [ob_some] at hl
  obtain ⟨r, hr, hl⟩ := hl
  split at hl
  · rename_i e base dl cap hty
    rw [ob_some] at hl
    obtain ⟨re, hre, hl⟩ := hl
    rw [ob_some] at hl
    obtain ⟨n, hn, hl⟩ := hl
    rw [ob_some] at hl
    obtain ⟨new, hnew, hl⟩ := hl
    have hlen := lenV_sound (P := P) hx hn w
    obtain ⟨new', hnewd, hn2⟩ := firstE_sound (P := P) s hx hn (Nat.min_le_left n dl) hnew
    have hn1 : (Builtin.firstCells re.size (Nat.min n dl) x').run P w = .ok ⟨new'⟩ w := hnewd w.drawn
    split at hl
    · injection hl with hl; injection hl with e1 e2; subst e1; subst e2
      cases hn2
      have hfit : ∃ b' c', sv' = .slice b' dl c' := by
        cases hs with
        | nils c hc => exact ⟨_, _, rfl⟩
        | slice b o n c B base c' hb hc hl => exact ⟨_, _, rfl⟩
        | slice0 b o a' c hc => exact ⟨_, _, rfl⟩
      obtain ⟨b', c', rfl⟩ := hfit
      refine ⟨goInt (Nat.min n dl), w, ?_, ρ, s, Step.refl _ _ _, .int _ _⟩
      simp only [Builtin.copy_, List.getElem?_toArray, List.getElem?_cons_zero, List.getElem?_cons_succ, Sem.run_bind, run_under hr, hty, Result.andThen_ok, hlen, run_size hre, hn1, Sem.run_pure]
      cases b' <;> rfl
    · split at hl
      · cases hl
      · rename_i b o sp
        rw [om_some] at hl
        obtain ⟨h2, hst, hl⟩ := hl
        injection hl with e1 e2; subst e1; subst e2
        have hsp : sp = none := by cases hs <;> rfl
        subst hsp
        cases hs with
        | slice b o n3 c3 B2 base2 c' hb2 hc hn3 =>
          obtain ⟨k1, k2, k3⟩ := storeRow_sound (P := P) s hb2 hn2 hst
          refine ⟨goInt (Nat.min n dl), _, ?_, ρ, k2, k3, .int _ _⟩
          simp only [Builtin.copy_, List.getElem?_toArray, List.getElem?_cons_zero, List.getElem?_cons_succ, Sem.run_bind, run_under hr, hty, Result.andThen_ok, hlen, run_size hre, hn1]
          simp only [k1, Sem.run_bind, Result.andThen_ok, Sem.run_pure]
        | slice0 b o a' c3 hc =>
          have h0 : Nat.min n 0 = 0 := Nat.min_zero n
          rw [h0] at hnew
          unfold firstE at hnew
          split at hnew
          · exact absurd (show some [] = some _ from hnew) (by simp)
          · cases hnew
          · cases hnew
          · cases hnew
  · cases hl

theorem delKey_cons (eq : Value → Option Bool) (e : Value × Value × Nat) (l : List (Value × Value × Nat)) : delKey eq (e :: l) = ob (eq e.1) fun b => bi b (some l) (om (delKey eq l) fun r => e :: r) := rfl
theorem delKey_sound {kt : TypeId} {u : TypeDesc} {k' : Value} {eq : Value → Option Bool} {now : Bool} (K : KeyRel P ρ kt u k' eq now) : ∀ {es : List (Value × Value × Nat)} {es' : List MapEntry} {r : List (Value × Value × Nat)}, ER ρ es es' → delKey eq es = some r →
    ((∀ e ∈ es', KR P kt u k' now e.key false) ∧ ER ρ r es') ∨ ∃ pre e post, es' = pre ++ e :: post ∧ (∀ e ∈ pre, KR P kt u k' now e.key false) ∧ KR P kt u k' now e.key true ∧ ER ρ r (es'.eraseIdx pre.length) := by
  intro es es' r he
  induction he generalizing r with
  | nil => intro h; injection h with h; subst h; exact Or.inl ⟨by simp, .nil⟩
  | cons k1 v1 k2 v2 n l m hk1 hv1 hl ih =>
    intro h
    rw [delKey_cons, ob_some] at h
    obtain ⟨b, hb, h⟩ := h
    have hsame := K.rel _ _ _ hk1 hb
    cases b
    · rw [bi_false, om_some] at h
      obtain ⟨r', hr', rfl⟩ := h
      rcases ih hr' with ⟨h1, h2⟩ | ⟨pre, e, post, h1, h2, h3, h4⟩
      · exact Or.inl ⟨by intro e he; rcases List.mem_cons.1 he with rfl | he; exact hsame; exact h1 e he, .cons _ _ _ _ _ _ _ hk1 hv1 h2⟩
      · refine Or.inr ⟨⟨k2, v2, n⟩ :: pre, e, post, by rw [h1]; rfl, by intro e he; rcases List.mem_cons.1 he with rfl | he; exact hsame; exact h2 e he, h3, ?_⟩
        simpa using ER.cons _ _ _ _ _ _ _ hk1 hv1 h4
    · injection h with h; subst h
      exact Or.inr ⟨[], ⟨k2, v2, n⟩, m, rfl, by simp, hsame, by simpa using hl⟩

theorem clear_sound (s : Sim ng n0 ρ h w) {t ty : TypeId} {ts : List TypeId} {xv ex v : Value} {h' : H} (hx : VR ρ xv ex) (hl : clearE (Env.of P eqs clone) h t xv = some (v, h')) :
    ∃ v' w', (Builtin.clear_ ⟨t :: ts⟩ ty #[ex]).run P w = .ok v' w' ∧ Post ng n0 ρ h w h' v v' w' := by
  unfold clearE at hl
  rw [ob_some] at hl
  obtain ⟨r, hr, hl⟩ := hl
  have ht : (⟨t :: ts⟩ : Array TypeId)[0]? = some t := rfl
  have hu := run_under (w := w) hr
  split at hl
  · rename_i e b o n cap hty
    rw [ob_some] at hl
    obtain ⟨re, hre, hl⟩ := hl
    rw [ob_some] at hl
    obtain ⟨z, hz, hl⟩ := hl
    rw [bi_some_none, om_some] at hl
    obtain ⟨hf, h2, hst, hl⟩ := hl
    injection hl with e1 e2; subst e1; subst e2
    cases hx with
    | slice b o n3 c3 B base c' hb hc hn =>
      have hv : VRs ρ (List.replicate (n + 1) (vcells z)).flatten (Builtin.zeroCells z.cells (n + 1)).toList := by
        rw [zeroCells_eq]
        exact (flat_VR (ρ := ρ) hf).vcells.flatten_replicate (n + 1)
      obtain ⟨k1, k2, k3⟩ := storeRow_sound (P := P) s hb hv hst
      refine ⟨.tuple #[], _, ?_, ρ, k2, k3, .tuple _ _ .nil⟩
      simp only [Builtin.clear_, ht, List.getElem?_toArray, List.getElem?_cons_zero, Sem.run_bind, hu, hty, Result.andThen_ok, run_zero hre hz, k1, Sem.run_pure]
  · rename_i e a cap hty
    injection hl with hl; injection hl with e1 e2; subst e1; subst e2
    have hfit : ∃ b' c', ex = .slice b' 0 c' := by
      cases hx with
      | nils c hc => exact ⟨_, _, rfl⟩
      | slice b o n c B base c' hb hc hl => exact ⟨_, _, rfl⟩
      | slice0 b o a' c hc => exact ⟨_, _, rfl⟩
    obtain ⟨b', c', rfl⟩ := hfit
    refine ⟨.tuple #[], w, ?_, ρ, s, Step.refl _ _ _, .tuple _ _ .nil⟩
    simp only [Builtin.clear_, ht, List.getElem?_toArray, List.getElem?_cons_zero, Sem.run_bind, hu, hty, Result.andThen_ok]
    cases b' <;> simp only [Sem.run_pure]
  · rename_i kt et hty
    injection hl with hl; injection hl with e1 e2; subst e1; subst e2
    cases hx
    refine ⟨.tuple #[], w, ?_, ρ, s, Step.refl _ _ _, .tuple _ _ .nil⟩
    simp only [Builtin.clear_, ht, List.getElem?_toArray, List.getElem?_cons_zero, Sem.run_bind, hu, hty, Result.andThen_ok, Sem.run_pure]
  · rename_i kt et b hty
    rw [om_some] at hl
    obtain ⟨e, he, hl⟩ := hl
    injection hl with e1 e2; subst e1; subst e2
    cases hx with
    | map b B hb =>
      obtain ⟨es', h1, h2, _, h3, hER⟩ := mapAt_sound s hb he
      have hg : (getObj B).run P w = .ok (.map ⟨es'⟩ e.2) w := run_getObj_map (w := w) B _ _ h3
      have hset : ∀ o, (setObj B o).run P w = .ok () { w with heap := w.heap.setIfInBounds B o } := fun o => by simp [setObj, Sem.run, h3]
      obtain ⟨s1, s2⟩ := s.set_obj h1 rfl hb (x := .mp [] e.2) (o := .map #[] e.2) rfl
        (fun es k he => by injection he with e1 e2; subst e1; subst e2; exact ⟨[], rfl, .nil⟩) (fun _ _ _ _ he => by cases he)
      refine ⟨.tuple #[], _, ?_, ρ, s1, s2, .tuple _ _ .nil⟩
      simp only [Builtin.clear_, ht, List.getElem?_toArray, List.getElem?_cons_zero, Sem.run_bind, hu, hty, Result.andThen_ok, hg, hset, Sem.run_pure]
  · cases hl

theorem delete_sound (ceq : ∀ t, t ∈ eqs → EqOk P t) (s : Sim ng n0 ρ h w) {t ty : TypeId} {ts : List TypeId} {mv kv em ek v : Value} {h' : H} (hm' : VR ρ mv em) (hk' : VR ρ kv ek) (hl : deleteM (Env.of P eqs clone) h t mv kv = some (v, h')) :
    ∃ v' w', (Builtin.delete_ ⟨t :: ts⟩ ty #[em, ek]).run P w = .ok v' w' ∧ Post ng n0 ρ h w h' v v' w' := by
  unfold deleteM at hl
  rw [ob_some] at hl
  obtain ⟨r, hr, hl⟩ := hl
  split at hl
  · rename_i kt et b hty
    rw [ob_some] at hl
    obtain ⟨rk, hrk, hl⟩ := hl
    rw [bi_some_none, ob_some] at hl
    obtain ⟨hs, e, he, hl⟩ := hl
    rw [om_some] at hl
    obtain ⟨u, hu, hl⟩ := hl
    injection hl with e1 e2; subst e1; subst e2
    cases hm' with
    | map b B hb =>
      obtain ⟨es', h1, h2, _, h3, hER⟩ := mapAt_sound s hb he
      obtain ⟨now, K⟩ := keyRel_of ceq hrk hs hk'
      have hg : (getObj B).run P w = .ok (.map ⟨es'⟩ e.2) w := run_getObj_map (w := w) B _ _ h3
      have hck := fun q => K.chk q w
      have hset : ∀ o, (setObj B o).run P w = .ok () { w with heap := w.heap.setIfInBounds B o } := fun o => by simp [setObj, Sem.run, h3]
      have ht : (⟨t :: ts⟩ : Array TypeId)[0]? = some t := rfl
      rcases delKey_sound K hER hu with ⟨k1, k2⟩ | ⟨pre, ent, post, rfl, k1, k1', k2⟩
      · obtain ⟨s1, s2⟩ := s.set_obj h1 rfl hb (x := .mp u e.2) (o := .map ⟨es'⟩ e.2) rfl
          (fun es k he => by injection he with e1 e2; subst e1; subst e2; exact ⟨_, rfl, k2⟩) (fun _ _ _ _ he => by cases he)
        refine ⟨.tuple #[], _, ?_, ρ, s1, s2, .tuple _ _ .nil⟩
        have := fk_none K k1 w
        simp only [Builtin.delete_, ht, List.getElem?_toArray, List.getElem?_cons_zero, List.getElem?_cons_succ, Sem.run_bind, run_under hr, hty, Result.andThen_ok, hg, hck, this, hset, Sem.run_pure]
      · have this := fk_some K (post := post) k1 k1' w
        generalize pre ++ ent :: post = es' at *
        generalize pre.length = j at *
        obtain ⟨s1, s2⟩ := s.set_obj h1 rfl hb (x := .mp u e.2) (o := .map ⟨es'.eraseIdx j⟩ e.2) rfl
          (fun es k he => by injection he with e1 e2; subst e1; subst e2; exact ⟨_, rfl, k2⟩) (fun _ _ _ _ he => by cases he)
        refine ⟨.tuple #[], _, ?_, ρ, s1, s2, .tuple _ _ .nil⟩
        have hmod : (⟨es'⟩ : Array MapEntry).eraseIdxIfInBounds j = ⟨es'.eraseIdx j⟩ := by
          apply Array.ext'
          simp
        simp only [Builtin.delete_, ht, List.getElem?_toArray, List.getElem?_cons_zero, List.getElem?_cons_succ, Sem.run_bind, run_under hr, hty, Result.andThen_ok, hg, hck, this, hset, Sem.run_pure, hmod]
  · cases hl
end
end Go.Ev
