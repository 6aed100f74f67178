/- A part of an evaluator of runs, and that it is right. -/
import Derived.Test.YtbkojaiecgdodaaDoorEvP5
set_option linter.unusedVariables false
set_option linter.unusedSimpArgs false
set_option linter.unusedSectionVars false
namespace Go.Ev
variable [Den]
section
variable {P : Program} {eqs : List Nat} {clone : Sp} {ρ : Rho} {α : A} {a : Act} {w : World}

inductive OR (ρ : Rho) : Option Value → Option Value → Prop
  | none : OR ρ none none
  | some (v v' : Value) (h : VR ρ v v') : OR ρ (some v) (some v')
theorem oopv_sound (c : Ctx P eqs ρ α a) {x : Option Operand} {o : Option Value} (h : oopv (Env.of P eqs clone) α x = some o) : OR ρ o (x.map a.eval) := by
  cases x with
  | none => cases h; exact .none
  | some x =>
    have h : om (opv x (Env.of P eqs clone) α) some = some o := h
    rw [om_some] at h
    obtain ⟨v, hv, rfl⟩ := h
    exact .some _ _ (c.opv hv)
theorem bound_some {v v' : Value} {d n n' k : Nat} {code : BoundsCode} (hv : VR ρ v v') (h : bound (some v) d n = some k) (hn : n ≤ n') :
    (Instr.sliceBound v' n' code).run P w = .ok k w ∧ k ≤ n := by
  unfold bound at h
  split at h
  · rename_i h1; cases h1
  · rename_i kd i h1
    injection h1 with h1; subst h1
    rw [bi_some_none] at h
    obtain ⟨h1, h2⟩ := h
    injection h2 with h2; subst h2
    have h1 := Nat.le_of_ble_eq_true h1
    cases hv
    refine ⟨?_, h1⟩
    have h2 : i ≤ n' := by omega
    simp [Instr.sliceBound, asIntOf, h2]
  · cases h
theorem bound_le {o o' : Option Value} {d n k : Nat} (ho : OR ρ o o') (h : bound o d n = some k) (hd : d ≤ n) : k ≤ n := by
  cases ho with
  | none => cases h; exact hd
  | some v v' hv => exact (bound_some (P := default) (w := default) (code := .index) hv h (Nat.le_refl n)).2

/-- low and high, without max -/
theorem bounds_two {isS : Bool} {len cap' n : Nat} {lo hi lo' hi' : Option Value} {h l : Nat} (hlo : OR ρ lo lo') (hhi : OR ρ hi hi') (hn : n ≤ cap')
    (hh : bound hi len n = some h) (hl : bound lo 0 h = some l) :
    (Instr.sliceBounds isS len cap' lo' hi' none).run P w = .ok (l, h, cap') w := by
  cases hhi with
  | none =>
    injection hh with hh; subst hh
    cases hlo with
    | none => injection hl with hl; subst hl; simp [Instr.sliceBounds]
    | some v v' hv => simp [Instr.sliceBounds, (bound_some (P := P) (w := w) (code := .sliceB) hv hl (Nat.le_refl _)).1]
  | some u u' hu =>
    have h1 := fun c => (bound_some (P := P) (w := w) (code := c) hu hh hn).1
    cases hlo with
    | none => injection hl with hl; subst hl; cases isS <;> simp [Instr.sliceBounds, h1]
    | some v v' hv => cases isS <;> simp [Instr.sliceBounds, h1, (bound_some (P := P) (w := w) (code := .sliceB) hv hl (Nat.le_refl _)).1]
/-- with max -/
theorem bounds_three {isS : Bool} {len cap' n : Nat} {lo lo' : Option Value} {u u' v v' : Value} {m h l : Nat} (hlo : OR ρ lo lo') (hhi : VR ρ u u') (hmx : VR ρ v v') (hn : n ≤ cap')
    (hm : bound (some v) 0 n = some m) (hh : bound (some u) len m = some h) (hl : bound lo 0 h = some l) :
    (Instr.sliceBounds isS len cap' lo' (some u') (some v')).run P w = .ok (l, h, m) w := by
  have h0 := fun c => (bound_some (P := P) (w := w) (code := c) hmx hm hn).1
  have h1 := fun c => (bound_some (P := P) (w := w) (code := c) hhi hh (Nat.le_refl _)).1
  cases hlo with
  | none => injection hl with hl; subst hl; cases isS <;> simp [Instr.sliceBounds, h0, h1]
  | some v v' hv => cases isS <;> simp [Instr.sliceBounds, h0, h1, (bound_some (P := P) (w := w) (code := .slice3C) hv hl (Nat.le_refl _)).1]

theorem extract_strL (s : ByteArray) (l h : Nat) (hh : h ≤ s.size) : s.extract l h = ⟨⟨((strL s).drop l).take (h - l)⟩⟩ := by
  apply ByteArray.ext
  apply Array.ext'
  simp [strL, ByteArray.data_extract, List.take_drop]
  try (congr 1; omega)

theorem capM_of {sz m : Nat} (h : sz < capK) : capM (capU + sz + capK * m) = m := by
  unfold capM capK capU at *
  show (9223372036854775808 + sz + 4294967296 * m - 9223372036854775808) / 4294967296 = m
  omega
theorem capZ_of {sz m : Nat} (h : sz < capK) : capZ (capU + sz + capK * m) = sz := by
  unfold capZ capK capU at *
  show (9223372036854775808 + sz + 4294967296 * m - 9223372036854775808) % 4294967296 = sz
  omega
theorem capM_zero {cap : Nat} (h : capU ≤ cap ∧ cap < capU + capK) : capM cap = 0 := by
  unfold capM capK capU at *
  show (cap - 9223372036854775808) / 4294967296 = 0
  omega
theorem capZ_lt (cap : Nat) : capZ cap < capK := by
  unfold capZ capK capU
  show (cap - 9223372036854775808) % 4294967296 < 4294967296
  omega
theorem capC_or (size m len : Nat) : capC size m len = capU + size ∨ (capC size m len = capU + size + capK * m ∧ len < m) := by
  unfold capC
  rw [bi_eq]
  split
  · exact Or.inl rfl
  · rename_i h
    have : ¬ m ≤ len := fun e => h (by simpa using e)
    exact Or.inr ⟨rfl, by omega⟩
theorem capC_of {size m len c' : Nat} (hs : size < capK) (hm : m ≤ c') : ∃ m', capC size m len = capU + size + capK * m' ∧ m' ≤ c' := by
  rcases capC_or size m len with h | ⟨h, _⟩
  · exact ⟨0, h, Nat.zero_le _⟩
  · exact ⟨m, h, hm⟩
theorem capL_hi {len cap : Nat} (h : capU ≤ cap) : capL len cap = Nat.max len (capM cap) := by
  unfold capL; rw [bi_eq, if_pos (by simpa using h), bi_eq]
  split
  · rename_i h; have : capM cap ≤ len := by simpa using h
    exact (Nat.max_eq_left this).symm
  · rename_i h; have : ¬ capM cap ≤ len := fun e => h (by simpa using e)
    exact (Nat.max_eq_right (by omega)).symm
theorem capL_lo {len cap : Nat} (h : cap < capU) : capL len cap = cap := by
  unfold capL; rw [bi_eq, if_neg (by simp; omega)]
theorem capS_hi {len cap l h : Nat} (hc : capU ≤ cap) : capS len cap l h = capC (capZ cap) (capL len cap - l) (h - l) := by
  unfold capS; rw [bi_eq, if_pos (by simpa using hc)]; rfl
theorem capS_lo {len cap l h : Nat} (hc : cap < capU) : capS len cap l h = cap - l := by
  unfold capS; rw [bi_eq, if_neg (by simp; omega)]; rfl
theorem capU_pos : 0 < capU := by unfold capU; omega
theorem capL_zero {cap : Nat} (hc : (capU ≤ cap ∧ cap < capU + capK) ∨ cap = 0) : capL 0 cap = 0 := by
  rcases hc with hc | hc
  · rw [capL_hi hc.1, capM_zero hc]; rfl
  · rw [hc]; exact capL_lo capU_pos
theorem capS_none {len cap l h : Nat} (hc : (capU ≤ cap ∧ capL len cap ≤ l) ∨ (cap < capU ∧ cap ≤ l)) : (capU ≤ capS len cap l h ∧ capS len cap l h < capU + capK) ∨ capS len cap l h = 0 := by
  rcases hc with ⟨hc, hl⟩ | ⟨hc, hl⟩
  · left
    rw [capS_hi hc]
    have := capZ_lt cap
    rcases capC_or (capZ cap) (capL len cap - l) (h - l) with h1 | ⟨h1, h2⟩
    · rw [h1]; omega
    · omega
  · right; rw [capS_lo hc]; omega
theorem capS_zero {cap l h : Nat} (hc : (capU ≤ cap ∧ cap < capU + capK) ∨ cap = 0) : (capU ≤ capS 0 cap l h ∧ capS 0 cap l h < capU + capK) ∨ capS 0 cap l h = 0 := by
  have h0 := capL_zero hc
  refine capS_none ?_
  rcases hc with hc | hc
  · exact Or.inl ⟨hc.1, by omega⟩
  · exact Or.inr ⟨by rw [hc]; exact capU_pos, by omega⟩
theorem capL_le {len cap c' n lim : Nat} (hc : (∃ sz m, sz < capK ∧ cap = capU + sz + capK * m ∧ m ≤ c' ∧ n + c' * sz ≤ lim) ∨ (c' = cap ∧ cap < capU)) (hl : len ≤ c') : len ≤ capL len cap ∧ capL len cap ≤ c' := by
  rcases hc with ⟨sz, m, hz, hc, hm, _⟩ | ⟨hc, hlt⟩
  · rw [capL_hi (by omega), hc, capM_of hz]
    exact ⟨Nat.le_max_left _ _, Nat.max_le.2 ⟨hl, hm⟩⟩
  · rw [capL_lo hlt]; omega
theorem capOk_eq {cap size sz m : Nat} (hk : capOk cap size = true) (hz : sz < capK) (hc : cap = capU + sz + capK * m) : sz = size := by
  have hge : capU ≤ cap := by omega
  unfold capOk at hk
  rw [bi_eq, if_pos (by simpa using hge)] at hk
  have hk := Nat.eq_of_beq_eq_true hk
  rw [hc, capZ_of hz] at hk
  exact hk

/-- the value of a slice of a slice -/
theorem slice_two {v' : Value} {b o len cap l h size : Nat} (hv : VR ρ (.slice (some ⟨b, o, none⟩) len cap) v') (hk : capOk cap size = true) (hh : h ≤ capL len cap) (hl : l ≤ h) :
    ∃ ad c', v' = .slice (some ad) len c' ∧ capL len cap ≤ c' ∧ VR ρ (.slice (some ⟨b, o + l * size, none⟩) (h - l) (capS len cap l h)) (.slice (some (if c' = l then ad else ad.add (l * size))) (h - l) (c' - l)) := by
  cases hv with
  | slice b o n c B base c' hb hc hn =>
    have h1 := capL_le hc hn
    refine ⟨_, _, rfl, h1.2, ?_⟩
    by_cases he : c' = l
    · have h2 : h - l = 0 := by omega
      have h3 : c' - l = 0 := by omega
      have h4 := capS_none (h := h) (l := l) (cap := cap) (len := len) (by
        by_cases hg : capU ≤ cap
        · exact Or.inl ⟨hg, by omega⟩
        · exact Or.inr ⟨by omega, by rw [← capL_lo (len := len) (cap := cap) (by omega)]; omega⟩)
      rw [h2, h3]
      exact .slice0 _ _ _ _ h4
    · rw [if_neg he, addr_add, Nat.add_assoc]
      refine .slice _ _ _ _ _ _ _ hb ?_ (by omega)
      rcases hc with ⟨sz, m, hz, hc, hm, hle⟩ | ⟨hc, hlt⟩
      · left
        have hge : capU ≤ cap := by omega
        have hsz := capOk_eq hk hz hc
        subst hsz
        obtain ⟨m', h5, h6⟩ := capC_of (len := h - l) hz (show capL len cap - l ≤ c' - l by omega)
        refine ⟨sz, m', hz, ?_, h6, ?_⟩
        · have hzz : capZ cap = sz := by rw [hc]; exact capZ_of hz
          rw [capS_hi hge, hzz]; exact h5
        · have : (c' - l) * sz + l * sz = c' * sz := by rw [← Nat.add_mul]; congr 1; omega
          omega
      · right
        rw [capS_lo hlt]; omega
  | slice0 b o a' c hc =>
    have h0 := capL_zero hc
    have h1 : h = 0 := by omega
    have h2 : l = 0 := by omega
    subst h1; subst h2
    refine ⟨_, _, rfl, by omega, ?_⟩
    simp only [if_true, Nat.sub_self]
    exact .slice0 _ _ _ _ (capS_zero hc)
theorem slice_three {v' : Value} {b o len cap l h m size : Nat} (hv : VR ρ (.slice (some ⟨b, o, none⟩) len cap) v') (hm : m ≤ capL len cap) (hh : h ≤ m) (hl : l ≤ h) (hmc : m < capU) :
    ∃ ad c', v' = .slice (some ad) len c' ∧ capL len cap ≤ c' ∧ VR ρ (.slice (some ⟨b, o + l * size, none⟩) (h - l) (m - l)) (.slice (some (if m = l then ad else ad.add (l * size))) (h - l) (m - l)) := by
  cases hv with
  | slice b o n c B base c' hb hc hn =>
    have h1 := capL_le hc hn
    refine ⟨_, _, rfl, h1.2, ?_⟩
    by_cases he : m = l
    · have h2 : h - l = 0 := by omega
      have h3 : m - l = 0 := by omega
      rw [h2, h3]
      exact .slice0 _ _ _ _ (Or.inr rfl)
    · rw [if_neg he, addr_add, Nat.add_assoc]
      exact .slice _ _ _ _ _ _ _ hb (Or.inr ⟨rfl, by omega⟩) (by omega)
  | slice0 b o a' c hc =>
    have h0 := capL_zero hc
    have h1 : m = 0 := by omega
    have h2 : h = 0 := by omega
    have h3 : l = 0 := by omega
    subst h1; subst h2; subst h3
    refine ⟨_, _, rfl, by omega, ?_⟩
    simp only [if_true, Nat.sub_self]
    exact .slice0 _ _ _ _ (Or.inr rfl)
theorem slice_nil {v' : Value} {len cap : Nat} (hv : VR ρ (.slice none len cap) v') : v' = .slice none 0 0 ∧ len = 0 ∧ capL len cap = 0 ∧ ((capU ≤ cap ∧ cap < capU + capK) ∨ cap = 0) := by
  cases hv with
  | nils c hc => exact ⟨rfl, rfl, capL_zero hc, hc⟩

theorem slice_sound (c : Ctx P eqs ρ α a) {t : TypeId} {x : Operand} {lo hi mx : Option Operand} {v : Value} (h : pSlice t x lo hi mx (Env.of P eqs clone) α = some v) :
    Y P (Instr.sliceAt t (a.eval x) (lo.map a.eval) (hi.map a.eval) (mx.map a.eval)) ρ v w := by
  unfold pSlice at h
  rw [ob_some] at h
  obtain ⟨u, hu, h⟩ := h
  rw [ob_some] at h
  obtain ⟨lo, hlo, h⟩ := h
  rw [ob_some] at h
  obtain ⟨hi, hhi, h⟩ := h
  rw [ob_some] at h
  obtain ⟨mx, hmx, h⟩ := h
  have hu' := c.opv hu
  have hlo := oopv_sound c hlo
  have hhi := oopv_sound c hhi
  have hmx := oopv_sound c hmx
  generalize a.eval x = ex at *
  generalize Option.map a.eval _ = lo' at *
  generalize Option.map a.eval _ = hi' at *
  generalize Option.map a.eval _ = mx' at *
  rw [bi_eq] at h
  split at h
  · unfold cutE at h
    split at h
    · rename_i hv2
      rw [ob_some] at h
      obtain ⟨r, hr, h⟩ := h
      cases hlo; cases hmx
      cases hhi with
      | some u2 u3 hh3 =>
      split at h
      · rename_i e hty
        rw [ob_some] at h
        obtain ⟨re, hre, h⟩ := h
        obtain ⟨f, hm, h1, h2, h3, rfl⟩ := lookF_mem h
        have hf := Den.ok f hm
        cases hf with
        | bin op' => have := bcode_lt op'; simp only at h1; omega
        | cat => simp only at h1; omega
        | neg => simp only at h1; omega
        | com => simp only at h1; omega
        | conv k => have := kcode_le k; simp only at h1; omega
        | len => simp only at h1; omega
        | cut a2 b2 v2 A n c2 m k ha hb hm2 hv hi =>
          have e1 := (syEq_dv h2 hu').symm.trans ha
          have e2 := (syEq_dv h3 hh3).symm.trans hb
          subst e1; subst e2
          refine ⟨_, ?_, okv_VR hv⟩
          rw [hi]
          have g : (m : Int) ≤ (c2 : Int) := by omega
          simp [Instr.sliceAt, Instr.slice, Instr.sliceBounds, Instr.sliceBound, asIntOf, run_under hr, hty, run_size hre, hm2, Addr.add]
        | pt => simp only at h1; omega
        | cutn a2 b2 v2 k ha hb hv hi =>
          have e1 := (syEq_dv h2 hu').symm.trans ha
          have e2 := (syEq_dv h3 hh3).symm.trans hb
          subst e1; subst e2
          refine ⟨_, ?_, okv_VR hv⟩
          rw [hi]
          simp [Instr.sliceAt, Instr.slice, Instr.sliceBounds, Instr.sliceBound, asIntOf, run_under hr, hty, run_size hre]
      · cases h
    · cases h
  rename_i hnsy
  unfold sliceE at h
  rw [ob_some] at h
  obtain ⟨r, hr, h⟩ := h
  split at h
  · rename_i s hty
    cases hu'
    split at h
    · rw [ob_some] at h
      obtain ⟨hh, h1, h⟩ := h
      rw [om_some] at h
      obtain ⟨l, h2, rfl⟩ := h
      cases hmx
      have hle := bound_le hhi h1 (Nat.le_refl _)
      have := bounds_two (P := P) (w := w) (isS := false) (len := s.size) (cap' := s.size) hlo hhi (Nat.le_of_eq (size_strL s).symm) (by rw [size_strL]; exact h1) h2
      refine ⟨_, ?_, .string _⟩
      simp [Instr.sliceAt, Instr.slice, run_under hr, hty, this]
      exact extract_strL s l hh (by rw [size_strL]; exact hle)
    · cases h
  · rename_i e ad len cap hty
    rw [ob_some] at h
    obtain ⟨re, hre, h⟩ := h
    rw [bi_some_none] at h
    obtain ⟨hk, h⟩ := h
    split at h
    · cases hmx
      rw [ob_some] at h
      obtain ⟨hh, h1, h⟩ := h
      rw [om_some] at h
      obtain ⟨l, h2, h⟩ := h
      have hlh := bound_le hlo h2 (Nat.zero_le _)
      cases ad with
      | none =>
        simp only at h
        subst h
        obtain ⟨rfl, rfl, h3, h4⟩ := slice_nil hu'
        have hle := bound_le hhi h1 (Nat.zero_le _)
        have h5 : hh = 0 := by omega
        have h6 : l = 0 := by omega
        subst h5; subst h6
        have := bounds_two (P := P) (w := w) (isS := true) (len := 0) (cap' := 0) hlo hhi (by omega) h1 h2
        refine ⟨.slice none 0 0, ?_, ?_⟩
        · simp [Instr.sliceAt, Instr.slice, run_under hr, hty, this, run_size hre]
        · exact .nils _ (capS_zero h4)
      | some ad =>
        obtain ⟨b, o, sp⟩ := ad
        simp only at h
        subst h
        have hsp : sp = none := by cases hu' <;> rfl
        subst hsp
        have hle := bound_le hhi h1 (by
          cases hu' with
          | slice _ _ _ _ _ _ _ hb hc hl => exact (capL_le hc hl).1
          | slice0 => exact Nat.zero_le _)
        obtain ⟨ad, c', rfl, h5, h6⟩ := slice_two (size := re.size) hu' hk hle hlh
        have := bounds_two (P := P) (w := w) (isS := true) (len := len) (cap' := c') hlo hhi h5 h1 h2
        refine ⟨_, ?_, h6⟩
        simp [Instr.sliceAt, Instr.slice, run_under hr, hty, this, run_size hre]
        split <;> rfl
    · rename_i m
      split at h
      · cases h
      · rename_i u
        rw [ob_some] at h
        obtain ⟨m', h0, h⟩ := h
        rw [bi_none_some] at h
        obtain ⟨hmc, h⟩ := h
        have hmc : m' < capU := by
          rw [← Bool.not_eq_true, Nat.ble_eq] at hmc; omega
        rw [ob_some] at h
        obtain ⟨hh, h1, h⟩ := h
        rw [om_some] at h
        obtain ⟨l, h2, h⟩ := h
        cases hmx with
        | some _ mv hmv =>
        cases hhi with
        | some _ hv hhv =>
        have hm := (bound_some (P := P) (w := w) (code := .index) hmv h0 (Nat.le_refl _)).2
        have hle := (bound_some (P := P) (w := w) (code := .index) hhv h1 (Nat.le_refl _)).2
        have hlh := bound_le hlo h2 (Nat.zero_le _)
        cases ad with
        | none =>
          simp only at h
          subst h
          obtain ⟨rfl, rfl, h3, h4⟩ := slice_nil hu'
          have h7 : m' = 0 := by omega
          have h5 : hh = 0 := by omega
          have h6 : l = 0 := by omega
          subst h7; subst h5; subst h6
          have := bounds_three (P := P) (w := w) (isS := true) (len := 0) (cap' := 0) hlo hhv hmv (by omega) h0 h1 h2
          refine ⟨.slice none 0 0, ?_, ?_⟩
          · simp [Instr.sliceAt, Instr.slice, run_under hr, hty, this, run_size hre]
          · exact .nils _ (Or.inr rfl)
        | some ad =>
          obtain ⟨b, o, sp⟩ := ad
          simp only at h
          subst h
          have hsp : sp = none := by cases hu' <;> rfl
          subst hsp
          obtain ⟨ad, c', rfl, h5, h6⟩ := slice_three (size := re.size) hu' hm hle hlh hmc
          have := bounds_three (P := P) (w := w) (isS := true) (len := len) (cap' := c') hlo hhv hmv h5 h0 h1 h2
          refine ⟨_, ?_, h6⟩
          simp [Instr.sliceAt, Instr.slice, run_under hr, hty, this, run_size hre]
          split <;> rfl
  · rename_i n e ad hty
    split at h
    · rw [bi_none_some] at h
      obtain ⟨hmc, h⟩ := h
      have hmc : n < capU := by
        rw [← Bool.not_eq_true, Nat.ble_eq] at hmc; omega
      rw [ob_some] at h
      obtain ⟨re, hre, h⟩ := h
      rw [ob_some] at h
      obtain ⟨hh, h1, h⟩ := h
      rw [om_some] at h
      obtain ⟨l, h2, rfl⟩ := h
      cases hmx
      have hle := bound_le hhi h1 (Nat.le_refl _)
      have hlh := bound_le hlo h2 (Nat.zero_le _)
      cases hu' with
      | ptr b o B base hb =>
        have := bounds_two (P := P) (w := w) (isS := false) (len := n) (cap' := n) hlo hhi (Nat.le_refl _) h1 h2
        refine ⟨.slice (some (if n = l then ⟨B, base + o, none⟩ else (⟨B, base + o, none⟩ : Addr).add (l * re.size))) (hh - l) (n - l), ?_, ?_⟩
        · simp [Instr.sliceAt, Instr.sureAddr, run_under hr, hty, this, run_size hre]
        · by_cases he : n = l
          · have h3 : hh - l = 0 := by omega
            have h4 : n - l = 0 := by omega
            have h3' : Nat.sub hh l = 0 := h3
            have h4' : Nat.sub n l = 0 := h4
            rw [h3', h4', h3, h4]
            exact .slice0 _ _ _ _ (Or.inr rfl)
          · rw [if_neg he, addr_add, Nat.add_assoc]
            exact .slice _ _ _ _ _ _ _ hb (Or.inr ⟨rfl, by have : Nat.sub n l = n - l := rfl; omega⟩) (by have : Nat.sub hh l = hh - l := rfl; omega)
    · cases h
  · cases h
end
end Go.Ev
