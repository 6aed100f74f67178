/- FrameTight, RangesF, RangesG, RangesH. -/
import Derived.Test.YtgkhldbnljdeiaaKRefGToFramesA
import Derived.Test.YtgkhldbnljdeiaaKSetSelfToRefB
set_option linter.unusedSimpArgs false
set_option linter.unusedVariables false
/- The frames of RangesTight: from the walk of the law to what is asked. -/
namespace Go.Proofs.Ytgkhldbnljdeiaa
open Go.ChangeShapes Go.WideShapes Go.ChangeAt Go.RowKit Go.Joins

/-- What the walk of RangesTight is to say. -/
def WalkRangesTight : Prop := ∀ (o k a b c d m0 m1 m2 m3 : Int) (w : World), (Lit.int .i64 o).wf = true → (Lit.int .i64 k).wf = true → (Lit.int .i64 a).wf = true → (Lit.int .i64 b).wf = true → (Lit.int .i64 c).wf = true → (Lit.int .i64 d).wf = true → (Lit.int .i64 m0).wf = true → (Lit.int .i64 m1).wf = true → (Lit.int .i64 m2).wf = true → (Lit.int .i64 m3).wf = true →
  Calls Try.prog 9 #[.agg #[.int .i64 o, .int .i64 k], .agg #[.int .i64 a, .int .i64 b, .int .i64 c, .int .i64 d], .agg #[.int .i64 m0, .int .i64 m1, .int .i64 m2, .int .i64 m3]] w fun e w' => e = .returned (.bool true) ∧ Below w.heap.size w w'

set_option maxRecDepth 100000 in
theorem liftedRangesTight (hw : WalkRangesTight) (os : Os) (started : os.Started) (H : Type) (enc : TypeId × Value → H) :
    ReturnsInHanded {} Try.checked os 9 .any (Rows.rangesTightSpec.pre6 enc Try.prog Try.f9 Rows.rangesTightRow.domain false) (Rows.rangesTightSpec.post enc Try.prog Try.f9 false true false false) := by
  refine returnsInHanded_of_change (C := Try.checked) Try.own started (by kernel_rfl) Try.func9
    (ChangeSpec.witness6 (enc := enc) (C := Try.checked) false ⟨#[], #[.agg #[.int .i64 0, .int .i64 0], .agg #[.int .i64 0, .int .i64 0, .int .i64 0, .int .i64 0], .agg #[.int .i64 0, .int .i64 0, .int .i64 0, .int .i64 0]], []⟩ 8 (by kernel_rfl) (by kernel_rfl) (by kernel_rfl) (by kernel_rfl)) ?_
  intro W base args ds gs before hval0 hW hcnd _
  have hval : ∀ (j : Nat) t v, Try.f9.params[j]? = some t → args[j]? = some v → Value.okWide Try.prog W .any base t v := hval0
  have hW' := hW
  obtain ⟨p, q, hA0, hV, rfl, hfz, hnd⟩ := hW
  have hA : DataW.TrodAll enc Try.prog W 0 (fun _ => true) true Try.f9.params.toList args.toList ds p := hA0
  rw [Try.params9] at hA hval
  obtain ⟨v0, v1, v2, d0, d1, d2, p0, p1, p2, rfl, rfl, rfl, h0, h1, h2⟩ := trodAll_three hA
  obtain ⟨rfl, rfl⟩ := trodVars_none hV
  obtain ⟨o, k, rfl, rfl, rfl, wo, wk⟩ := open_ask (hval 0 34 v0 rfl rfl) h0
  obtain ⟨a, b, c, d, rfl, rfl, rfl, wa, wb, wc, wd⟩ := open_two (hval 1 44 v1 rfl rfl) h1
  obtain ⟨m0, m1, m2, m3, rfl, rfl, rfl, wm0, wm1, wm2, wm3⟩ := open_two (hval 2 44 v2 rfl rfl) h2
  clear hA0 hval0
  simp only [List.append_nil] at hW'
  refine (hw o k a b c d m0 m1 m2 m3 W wo wk wa wb wc wd wm0 wm1 wm2 wm3).mono fun e W' ⟨he, hg⟩ => ?_
  subst he
  exact ⟨_, rfl, post_below (pa := []) (pv := []) hW' (fun _ _ _ => trodAll_mk1 (shut_bool Try.underlying4 _)) (fun sp _ => trodAll_mk3 (shut_ask _ sp o k wo wk) (shut_two _ sp a b c d wa wb wc wd) (shut_two _ sp m0 m1 m2 m3 wm0 wm1 wm2 wm3)) (fun _ _ => rfl) rfl hg (ok_one (by kernel_rfl) rfl (okWide_bool_mk Try.underlying4 _))⟩

theorem holdsRangesTight (hw : WalkRangesTight) : Rows.RangesTightSaid :=
  OpenClaim.holds_of_wide 9 Try.f9 rfl rfl rfl rfl rfl rfl rfl ⟨rfl, rfl, rfl, rfl, rfl⟩ rfl rfl rfl rfl rfl (by kernel_rfl) Try.func9 (by kernel_rfl)
    (of_decide_eq_true (by kernel_rfl)) (by unfold Func.isWrapper; rw [if_neg (of_decide_eq_false (by kernel_rfl))]; exact ⟨rfl, rfl⟩)
    (fun os started H enc _ => liftedRangesTight hw os started H enc)

end Go.Proofs.Ytgkhldbnljdeiaa

/- The plain arithmetic of RangesTight: of greater ranges the effect is not smaller. -/
namespace Go.Proofs.Ytgkhldbnljdeiaa.RangesMath
open Go Go.RowKit

/-- An effect says no less than another one. -/
structure More (E F : Eff) : Prop where
  trap : E.trap = true → F.trap = true
  undef : E.undef = true → F.undef = true
  holds : E.some = true → F.some = true ∧ F.lo ≤ E.lo ∧ E.hi ≤ F.hi

theorem fin_mono (l h l' h' k : Int) (hk : k = 1 ∨ k = 2) (hlh : l ≤ h) (h1 : l' ≤ l) (h2 : h ≤ h') : (fin l' h' k).1 ≤ (fin l h k).1 ∧ (fin l h k).2 ≤ (fin l' h' k).2 := by
  have f := fin_ok l h k hk hlh
  unfold fin at *
  by_cases ho' : (out64 l' || out64 h') = true
  · simp only [ho', if_true]; exact ⟨f.1, f.2.2⟩
  · have ho : ¬ (out64 l || out64 h) = true := by simp [out64] at ho' ⊢; omega
    simp only [ho', ho, if_false, Bool.false_eq_true] at *
    by_cases h3 : k = 1
    · simp only [h3, if_true]; exact ⟨h1, h2⟩
    · simp only [h3, if_false] at *
      by_cases h4 : l' / 256 = h' / 256
      · have h5 : l / 256 = h / 256 := by omega
        simp only [h4, h5, if_true]; omega
      · simp only [h4, if_false]; exact ⟨f.1, f.2.2⟩

theorem more_mul (k a b c d a' b' c' d' : Int) (hk : k = 1 ∨ k = 2) (h1 : a' ≤ a) (h2 : b ≤ b') (h3 : c' ≤ c) (h4 : d ≤ d') (hab : a ≤ b) (hcd : c ≤ d) : More (binS 1 k a b c d) (binS 1 k a' b' c' d') := by
  refine ⟨fun h => h, fun h => h, fun _ => ⟨rfl, ?_⟩⟩
  have e1 := mul_corners a' b' c' d' a c h1 (by omega) h3 (by omega)
  have e2 := mul_corners a' b' c' d' a d h1 (by omega) (by omega) h4
  have e3 := mul_corners a' b' c' d' b c (by omega) h2 h3 (by omega)
  have e4 := mul_corners a' b' c' d' b d (by omega) h2 (by omega) h4
  exact fin_mono _ _ _ _ k hk (min4_le_max4 _ _ _ _) (by unfold min4; omega) (by unfold max4; omega)
theorem more_add (k a b c d a' b' c' d' : Int) (hk : k = 1 ∨ k = 2) (h1 : a' ≤ a) (h2 : b ≤ b') (h3 : c' ≤ c) (h4 : d ≤ d') (hab : a ≤ b) (hcd : c ≤ d) : More (binS 4 k a b c d) (binS 4 k a' b' c' d') :=
  ⟨fun h => h, fun h => h, fun _ => ⟨rfl, fin_mono _ _ _ _ k hk (by omega) (by omega) (by omega)⟩⟩
theorem more_sub (k a b c d a' b' c' d' : Int) (hk : k = 1 ∨ k = 2) (h1 : a' ≤ a) (h2 : b ≤ b') (h3 : c' ≤ c) (h4 : d ≤ d') (hab : a ≤ b) (hcd : c ≤ d) : More (binS 5 k a b c d) (binS 5 k a' b' c' d') :=
  ⟨fun h => h, fun h => h, fun _ => ⟨rfl, fin_mono _ _ _ _ k hk (by omega) (by omega) (by omega)⟩⟩

theorem shift_flags (k c d c' d' : Int) (h3 : c' ≤ c) (h4 : d ≤ d') : (decide (c < 0) || decide (top k < d)) = true → (decide (c' < 0) || decide (top k < d')) = true := by
  intro h; simp at h ⊢; omega

theorem more_shl (k a b c d a' b' c' d' : Int) (hk : k = 1 ∨ k = 2) (h1 : a' ≤ a) (h2 : b ≤ b') (h3 : c' ≤ c) (h4 : d ≤ d') (hab : a ≤ b) : More (binS 6 k a b c d) (binS 6 k a' b' c' d') := by
  have e : ∀ a b c d : Int, binS 6 k a b c d = if max c 0 ≤ min d (top k) then _ else _ := fun _ _ _ _ => rfl
  rw [e a b c d, e a' b' c' d']; clear e
  by_cases hs : max c 0 ≤ min d (top k)
  · have hs' : max c' 0 ≤ min d' (top k) := by omega
    rw [if_pos hs, if_pos hs']
    refine ⟨fun h => h, shift_flags k c d c' d' h3 h4, fun _ => ⟨rfl, ?_⟩⟩
    have q1 : (max c' 0).toNat ≤ (max c 0).toNat := by omega
    have q2 : (max c 0).toNat ≤ (min d (top k)).toNat := by omega
    have q3 : (min d (top k)).toNat ≤ (min d' (top k)).toNat := by omega
    have e1 := shl_corners a' b' a (max c' 0).toNat (min d' (top k)).toNat (max c 0).toNat h1 (by omega) q1 (by omega)
    have e2 := shl_corners a' b' a (max c' 0).toNat (min d' (top k)).toNat (min d (top k)).toNat h1 (by omega) (by omega) q3
    have e3 := shl_corners a' b' b (max c' 0).toNat (min d' (top k)).toNat (max c 0).toNat (by omega) h2 q1 (by omega)
    have e4 := shl_corners a' b' b (max c' 0).toNat (min d' (top k)).toNat (min d (top k)).toNat (by omega) h2 (by omega) q3
    exact fin_mono _ _ _ _ k hk (min4_le_max4 _ _ _ _) (by unfold min4; omega) (by unfold max4; omega)
  · rw [if_neg hs]
    refine ⟨fun h => by simp at h, fun h => ?_, fun h => by simp at h⟩
    have := shift_flags k c d c' d' h3 h4 h
    split <;> exact this

theorem more_shr (k a b c d a' b' c' d' : Int) (h1 : a' ≤ a) (h2 : b ≤ b') (h3 : c' ≤ c) (h4 : d ≤ d') (hab : a ≤ b) : More (binS 7 k a b c d) (binS 7 k a' b' c' d') := by
  have e : ∀ a b c d : Int, binS 7 k a b c d = if max c 0 ≤ min d (top k) then _ else _ := fun _ _ _ _ => rfl
  rw [e a b c d, e a' b' c' d']; clear e
  by_cases hs : max c 0 ≤ min d (top k)
  · have hs' : max c' 0 ≤ min d' (top k) := by omega
    rw [if_pos hs, if_pos hs']
    refine ⟨fun h => h, shift_flags k c d c' d' h3 h4, fun _ => ⟨rfl, ?_⟩⟩
    have q1 : (max c' 0).toNat ≤ (max c 0).toNat := by omega
    have q2 : (max c 0).toNat ≤ (min d (top k)).toNat := by omega
    have q3 : (min d (top k)).toNat ≤ (min d' (top k)).toNat := by omega
    have e1 := shr_corners a' b' a (max c' 0).toNat (min d' (top k)).toNat (max c 0).toNat h1 (by omega) q1 (by omega)
    have e2 := shr_corners a' b' a (max c' 0).toNat (min d' (top k)).toNat (min d (top k)).toNat h1 (by omega) (by omega) q3
    have e3 := shr_corners a' b' b (max c' 0).toNat (min d' (top k)).toNat (max c 0).toNat (by omega) h2 q1 (by omega)
    have e4 := shr_corners a' b' b (max c' 0).toNat (min d' (top k)).toNat (min d (top k)).toNat (by omega) h2 (by omega) q3
    constructor
    · simp only [min4]; omega
    · simp only [max4]; omega
  · rw [if_neg hs]
    refine ⟨fun h => by simp at h, fun h => ?_, fun h => by simp at h⟩
    have := shift_flags k c d c' d' h3 h4 h
    split <;> exact this

theorem ones_mono (m n : Int) (h : m ≤ n) : ones m ≤ ones n := by
  unfold ones
  by_cases h0 : m ≤ 0
  · rw [if_pos h0]
    have := pow_mono 0 (if n ≤ 0 then 0 else n.toNat.log2 + 1) (by omega)
    omega
  · rw [if_neg h0, if_neg (by omega)]
    have : m.toNat.log2 ≤ n.toNat.log2 := by
      rw [Nat.le_log2 (by omega)]
      have := Nat.log2_self_le (n := m.toNat) (by omega)
      omega
    have := pow_mono (m.toNat.log2 + 1) (n.toNat.log2 + 1) (by omega)
    omega
theorem le_ones (n : Int) (h : 0 ≤ n) (h' : n ≤ 9223372036854775807) : n ≤ ones n := by
  obtain ⟨m, _, e, hlt, _⟩ := ones_spec n h h'
  rw [e]; omega

theorem more_bits (op k a b c d a' b' c' d' : Int) (ho : op = 8 ∨ op = 9 ∨ op = 10) (g : Rg k a b c d) (g' : Rg k a' b' c' d') (h1 : a' ≤ a) (h2 : b ≤ b') (h3 : c' ≤ c) (h4 : d ≤ d') : More (binS op k a b c d) (binS op k a' b' c' d') := by
  have e : ∀ a b c d : Int, binS op k a b c d = ⟨(bitsS op k a b c d).1, (bitsS op k a b c d).2, true, false, false⟩ := fun a b c d => by rcases ho with rfl | rfl | rfl <;> rfl
  have con := con_bits k a b c d g op ho
  rw [e] at con
  rw [e a b c d, e a' b' c' d']
  refine ⟨fun h => h, fun h => h, fun _ => ⟨rfl, ?_⟩⟩
  have hr : resK op k = k := by rcases ho with rfl | rfl | rfl <;> simp [resK]
  have hok := con.ok rfl
  rw [hr] at hok
  obtain ⟨hk, ha, hab, hb, hc, hcd, hd⟩ := g
  obtain ⟨_, ha', hab', hb', hc', hcd', hd'⟩ := g'
  have hH : fullHigh k ≤ 9223372036854775807 := by rcases hk with rfl | rfl <;> simp [fullHigh]
  simp only at hok ⊢
  by_cases hs' : a' = b' ∧ c' = d'
  · have : a = a' ∧ b = b' ∧ c = c' ∧ d = d' := by omega
    obtain ⟨rfl, rfl, rfl, rfl⟩ := this
    exact ⟨Int.le_refl _, Int.le_refl _⟩
  · -- the greater ones are not single values
    by_cases hs : a = b ∧ c = d
    · obtain ⟨rfl, rfl⟩ := hs
      have hh := bits_holds op k a' b' c' d' a c hk ha' hb' hc' hd' h1 (by omega) h3 (by omega) ho
      have hl := bitOp_low op k a c hk (by omega) (by omega) (by omega) (by omega)
      have es : bitsS op k a a c c = (bitOp op a c, bitOp op a c) := by unfold bitsS; rw [if_pos ⟨rfl, rfl⟩]; rfl
      rw [es]; rw [hl.1] at hh; exact hh
    · unfold bitsS at *
      rw [if_neg hs] at *
      rw [if_neg hs']
      rcases ho with rfl | rfl | rfl
      · simp only [if_true] at *
        by_cases c1 : 0 ≤ a' ∧ 0 ≤ c'
        · rw [if_pos c1]; rw [if_pos (show 0 ≤ a ∧ 0 ≤ c by omega)]; simp only; omega
        · rw [if_neg c1]
          by_cases c2 : 0 ≤ a'
          · rw [if_pos c2]
            by_cases c3 : 0 ≤ c
            · rw [if_pos (show 0 ≤ a ∧ 0 ≤ c by omega)]; simp only; omega
            · rw [if_neg (show ¬ (0 ≤ a ∧ 0 ≤ c) by omega), if_pos (show 0 ≤ a by omega)]; simp only; omega
          · rw [if_neg c2]
            by_cases c3 : 0 ≤ c'
            · rw [if_pos c3]
              by_cases c4 : 0 ≤ a
              · rw [if_pos (show 0 ≤ a ∧ 0 ≤ c by omega)]; simp only; omega
              · rw [if_neg (show ¬ (0 ≤ a ∧ 0 ≤ c) by omega), if_neg c4, if_pos (show 0 ≤ c by omega)]; simp only; omega
            · rw [if_neg c3]; exact ⟨hok.1, hok.2.2⟩
      all_goals
        simp only [Int.reduceEq, if_true, if_false] at *
        by_cases c1 : a' < 0 ∨ c' < 0
        · rw [if_pos c1]; exact ⟨hok.1, hok.2.2⟩
        · rw [if_neg c1, if_neg (show ¬ (a < 0 ∨ c < 0) by omega)]
          have := ones_mono (max b d) (max b' d') (by omega)
          simp only; omega

theorem more_comp (op k a b c d a' b' c' d' : Int) (o1 : 11 ≤ op) (o2 : op ≤ 16) (h1 : a' ≤ a) (h2 : b ≤ b') (h3 : c' ≤ c) (h4 : d ≤ d') (hab : a ≤ b) (hcd : c ≤ d) : More (binS op k a b c d) (binS op k a' b' c' d') := by
  have e : ∀ a b c d : Int, binS op k a b c d = ⟨(compS op a b c d).1, (compS op a b c d).2, true, false, false⟩ := fun a b c d => by
    obtain rfl | rfl | rfl | rfl | rfl | rfl : op = 11 ∨ op = 12 ∨ op = 13 ∨ op = 14 ∨ op = 15 ∨ op = 16 := by omega
    all_goals rfl
  rw [e a b c d, e a' b' c' d']
  refine ⟨fun h => h, fun h => h, fun _ => ⟨rfl, ?_⟩⟩
  obtain rfl | rfl | rfl | rfl | rfl | rfl : op = 11 ∨ op = 12 ∨ op = 13 ∨ op = 14 ∨ op = 15 ∨ op = 16 := by omega
  all_goals
    simp only [compS, truthR, Int.reduceEq, if_true, if_false, Bool.and_eq_true, beq_iff_eq, Bool.or_eq_true, decide_eq_true_eq]
    constructor <;> (repeat' split) <;> omega

theorem undefB_mono (k a c d a' c' d' : Int) (h1 : a' ≤ a) (h3 : c' ≤ c) (h4 : d ≤ d') : undefB k a c d = true → undefB k a' c' d' = true := by
  intro h
  simp [undefB] at h ⊢
  omega
theorem trapB_mono (c d c' d' : Int) (h3 : c' ≤ c) (h4 : d ≤ d') : (decide (c ≤ 0) && decide (0 ≤ d)) = true → (decide (c' ≤ 0) && decide (0 ≤ d')) = true := by
  intro h; simp at h ⊢; omega

/-- The corners of a pair are pairs of values with a quotient. -/
theorem pairs_corner (k a b c d : Int) (ha : least ≤ a) (hab : a ≤ b) (hcd : c ≤ d) (p : Pr) (h : p ∈ pairsS k a b c d) :
    a ≤ p.a ∧ p.a ≤ p.b ∧ p.b ≤ b ∧ c ≤ p.c ∧ p.c ≤ p.d ∧ p.d ≤ d ∧ p.c ≠ 0 ∧ p.d ≠ 0 ∧ (k = 1 → (least < p.a ∨ (p.c ≠ -1 ∧ p.d ≠ -1))) := by
  unfold pairsS at h
  rcases List.mem_append.1 h with h | h
  · by_cases h0 : c < 0
    · rw [if_pos h0] at h
      by_cases hu : undefB k a c d = true
      · rw [if_pos hu] at h
        have hu' := hu
        simp [undefB] at hu'
        rcases List.mem_append.1 h with h | h
        · by_cases h5 : c < -1
          · rw [if_pos h5] at h; simp at h; subst h; simp only; refine ⟨?_, ?_, ?_, ?_, ?_, ?_, ?_, ?_, fun _ => .inr ?_⟩ <;> omega
          · rw [if_neg h5] at h; simp at h
        · by_cases h5 : least < b
          · rw [if_pos h5] at h; simp at h; subst h; simp only; unfold least at *; refine ⟨?_, ?_, ?_, ?_, ?_, ?_, ?_, ?_, fun _ => .inl ?_⟩ <;> omega
          · rw [if_neg h5] at h; simp at h
      · rw [if_neg hu] at h; simp at h; subst h
        simp [undefB] at hu
        simp only; refine ⟨?_, ?_, ?_, ?_, ?_, ?_, ?_, ?_, fun hk => ?_⟩
        any_goals omega
    · rw [if_neg h0] at h; simp at h
  · by_cases h0 : 0 < d
    · rw [if_pos h0] at h; simp at h; subst h; simp only; refine ⟨?_, ?_, ?_, ?_, ?_, ?_, ?_, ?_, fun _ => .inr ?_⟩ <;> omega
    · rw [if_neg h0] at h; simp at h

/-- A quotient of a pair of values that has one lies in the hull of greater ranges. -/
theorem quot_in (k a b c d v w : Int) (ha : least ≤ a) (h1 : a ≤ v) (h2 : v ≤ b) (h3 : c ≤ w) (h4 : w ≤ d) (hw : w ≠ 0) (hu : ¬ (k = 1 ∧ v = least ∧ w = -1)) :
    pairsS k a b c d ≠ [] ∧ hullLo (pairsS k a b c d) ≤ v.tdiv w ∧ v.tdiv w ≤ hullHi (pairsS k a b c d) := by
  obtain ⟨p, hm, p1, p2, p3, p4, p5⟩ := pairs_mem k a b c d v w ha h1 h2 h3 h4 hw hu
  have m := p.mem v w p1 p2 p3 p4 p5
  have q := hull_mem _ p hm
  exact ⟨List.ne_nil_of_mem hm, by omega, by omega⟩

theorem pair_in (k a b c d a' b' c' d' : Int) (ha : least ≤ a) (hab : a ≤ b) (hcd : c ≤ d) (ha' : least ≤ a') (h1 : a' ≤ a) (h2 : b ≤ b') (h3 : c' ≤ c) (h4 : d ≤ d') (p : Pr) (h : p ∈ pairsS k a b c d) :
    pairsS k a' b' c' d' ≠ [] ∧ hullLo (pairsS k a' b' c' d') ≤ p.lo ∧ p.hi ≤ hullHi (pairsS k a' b' c' d') := by
  obtain ⟨q1, q2, q3, q4, q5, q6, q7, q8, q9⟩ := pairs_corner k a b c d ha hab hcd p h
  have u : ∀ x y, p.a ≤ x → (y = p.c ∨ y = p.d) → ¬ (k = 1 ∧ x = least ∧ y = -1) := by
    rintro x y hx hy ⟨hk, rfl, rfl⟩
    rcases q9 hk with q | q <;> omega
  have e1 := quot_in k a' b' c' d' p.a p.c ha' (by omega) (by omega) (by omega) (by omega) q7 (u _ _ (by omega) (.inl rfl))
  have e2 := quot_in k a' b' c' d' p.a p.d ha' (by omega) (by omega) (by omega) (by omega) q8 (u _ _ (by omega) (.inr rfl))
  have e3 := quot_in k a' b' c' d' p.b p.c ha' (by omega) (by omega) (by omega) (by omega) q7 (u _ _ (by omega) (.inl rfl))
  have e4 := quot_in k a' b' c' d' p.b p.d ha' (by omega) (by omega) (by omega) (by omega) q8 (u _ _ (by omega) (.inr rfl))
  refine ⟨e1.1, ?_, ?_⟩
  · simp only [Pr.lo, min4]; omega
  · simp only [Pr.hi, max4]; omega

theorem hull_below (l : List Pr) (L H : Int) (hl : l ≠ []) (h : ∀ p ∈ l, L ≤ p.lo ∧ p.hi ≤ H) : L ≤ hullLo l ∧ hullHi l ≤ H := by
  have := hull_in l L H hl (fun p hp => ⟨(h p hp).1, (h p hp).2, p.le⟩)
  exact ⟨this.1, this.2.1⟩

theorem more_div (k a b c d a' b' c' d' : Int) (g : Rg k a b c d) (g' : Rg k a' b' c' d') (h1 : a' ≤ a) (h2 : b ≤ b') (h3 : c' ≤ c) (h4 : d ≤ d') : More (binS 2 k a b c d) (binS 2 k a' b' c' d') := by
  have hl : least ≤ a := by have := g.ha; unfold least; rcases g.hk with rfl | rfl <;> simp [fullLow] at this <;> omega
  have hl' : least ≤ a' := by have := g'.ha; unfold least; rcases g'.hk with rfl | rfl <;> simp [fullLow] at this <;> omega
  have e : ∀ a b c d : Int, binS 2 k a b c d = if pairsS k a b c d = [] then _ else _ := fun _ _ _ _ => rfl
  rw [e a b c d, e a' b' c' d']; clear e
  have pin := fun p hp => pair_in k a b c d a' b' c' d' hl g.hab g.hcd hl' h1 h2 h3 h4 p hp
  by_cases hp : pairsS k a b c d = []
  · rw [if_pos hp]
    refine ⟨fun h => ?_, fun h => ?_, fun h => by simp at h⟩
    · have := trapB_mono c d c' d' h3 h4 h
      split <;> exact this
    · have := undefB_mono k a c d a' c' d' h1 h3 h4 h
      split <;> exact this
  · obtain ⟨p0, hp0⟩ := List.exists_mem_of_ne_nil _ hp
    have hp' := (pin p0 hp0).1
    rw [if_neg hp, if_neg hp']
    refine ⟨trapB_mono c d c' d' h3 h4, undefB_mono k a c d a' c' d' h1 h3 h4, fun _ => ⟨rfl, ?_⟩⟩
    exact hull_below _ _ _ hp (fun p hp => (pin p hp).2)

theorem mS_pos (c d : Int) : 1 ≤ mS c d := by unfold mS; split <;> (try split) <;> omega

theorem more_rem (k a b c d a' b' c' d' : Int) (g : Rg k a b c d) (g' : Rg k a' b' c' d') (h1 : a' ≤ a) (h2 : b ≤ b') (h3 : c' ≤ c) (h4 : d ≤ d') : More (binS 3 k a b c d) (binS 3 k a' b' c' d') := by
  have hl : least ≤ a := by have := g.ha; unfold least; rcases g.hk with rfl | rfl <;> simp [fullLow] at this <;> omega
  have hl' : least ≤ a' := by have := g'.ha; unfold least; rcases g'.hk with rfl | rfl <;> simp [fullLow] at this <;> omega
  have e : ∀ a b c d : Int, binS 3 k a b c d = if pairsS k a b c d = [] then _ else _ := fun _ _ _ _ => rfl
  rw [e a b c d, e a' b' c' d']; clear e
  have pin := fun p hp => pair_in k a b c d a' b' c' d' hl g.hab g.hcd hl' h1 h2 h3 h4 p hp
  by_cases hp : pairsS k a b c d = []
  · rw [if_pos hp]
    refine ⟨fun h => ?_, fun h => ?_, fun h => by simp at h⟩
    · have := trapB_mono c d c' d' h3 h4 h
      split <;> exact this
    · have := undefB_mono k a c d a' c' d' h1 h3 h4 h
      split <;> exact this
  · obtain ⟨p0, hp0⟩ := List.exists_mem_of_ne_nil _ hp
    have hp' := (pin p0 hp0).1
    rw [if_neg hp, if_neg hp']
    refine ⟨trapB_mono c d c' d' h3 h4, undefB_mono k a c d a' c' d' h1 h3 h4, fun _ => ⟨rfl, ?_⟩⟩
    have n1 := pairs_none k a b c d hp
    have hcd := g.hcd
    have hab := g.hab
    simp only
    -- the least absolute value gets no greater, the greatest one no less
    have m1 : mS c' d' ≤ mS c d := by unfold mS; (repeat' split) <;> omega
    have m2 : MS c d ≤ MS c' d' := by unfold MS; omega
    have m3 : mS c d ≤ MS c d := by unfold mS MS; (repeat' split) <;> omega
    have m4 : 1 ≤ mS c d := mS_pos c d
    unfold restS absS
    by_cases s' : (a'.natAbs : Int) < mS c' d' ∧ (b'.natAbs : Int) < mS c' d'
    · rw [if_pos s', if_pos (show (a.natAbs : Int) < mS c d ∧ (b.natAbs : Int) < mS c d by omega)]
      exact ⟨h1, h2⟩
    · rw [if_neg s']
      by_cases s : (a.natAbs : Int) < mS c d ∧ (b.natAbs : Int) < mS c d
      · rw [if_pos s]; constructor
        · simp only; split <;> omega
        · simp only; split <;> omega
      · rw [if_neg s]; constructor
        · simp only; (repeat' split) <;> omega
        · simp only; (repeat' split) <;> omega

theorem more_land (a b c d a' b' c' d' : Int) (ha' : 0 ≤ a') (hc' : 0 ≤ c') (h1 : a' ≤ a) (h2 : b ≤ b') (h3 : c' ≤ c) (h4 : d ≤ d') (hab : a ≤ b) (hcd : c ≤ d) : More (binS 17 3 a b c d) (binS 17 3 a' b' c' d') := by
  have e : ∀ a b c d : Int, binS 17 3 a b c d = ⟨a * c, b * d, true, false, false⟩ := fun _ _ _ _ => rfl
  rw [e a b c d, e a' b' c' d']
  refine ⟨fun h => h, fun h => h, fun _ => ⟨rfl, ?_, ?_⟩⟩
  · exact Int.mul_le_mul h1 h3 hc' (by omega)
  · exact Int.mul_le_mul h2 h4 (by omega) (by omega)
theorem more_lor (a b c d a' b' c' d' : Int) (h1 : a' ≤ a) (h2 : b ≤ b') (h3 : c' ≤ c) (h4 : d ≤ d') : More (binS 18 3 a b c d) (binS 18 3 a' b' c' d') := by
  have e : ∀ a b c d : Int, binS 18 3 a b c d = ⟨max a c, max b d, true, false, false⟩ := fun _ _ _ _ => rfl
  rw [e a b c d, e a' b' c' d']
  refine ⟨fun h => h, fun h => h, fun _ => ⟨rfl, ?_, ?_⟩⟩
  · simp only; omega
  · simp only; omega

theorem more_all (op k a b c d a' b' c' d' : Int) (hf : fitsB op k = true) (ha : fullLow k ≤ a) (hab : a ≤ b) (hb : b ≤ fullHigh k) (hc : fullLow k ≤ c) (hcd : c ≤ d) (hd : d ≤ fullHigh k)
    (ha' : fullLow k ≤ a') (hb' : b' ≤ fullHigh k) (hc' : fullLow k ≤ c') (hd' : d' ≤ fullHigh k) (h1 : a' ≤ a) (h2 : b ≤ b') (h3 : c' ≤ c) (h4 : d ≤ d') : More (binS op k a b c d) (binS op k a' b' c' d') := by
  simp only [fitsB, decide_eq_true_eq] at hf
  by_cases h : 11 ≤ op ∧ op ≤ 16
  · exact more_comp op k a b c d a' b' c' d' h.1 h.2 h1 h2 h3 h4 hab hcd
  · by_cases hk3 : k = 3
    · subst hk3
      simp only [fullLow, Int.reduceEq, if_false] at ha' hc'
      obtain rfl | rfl : op = 17 ∨ op = 18 := by omega
      · exact more_land a b c d a' b' c' d' ha' hc' h1 h2 h3 h4 hab hcd
      · exact more_lor a b c d a' b' c' d' h1 h2 h3 h4
    · have hk : k = 1 ∨ k = 2 := by omega
      have g : Rg k a b c d := ⟨hk, ha, hab, hb, hc, hcd, hd⟩
      have g' : Rg k a' b' c' d' := ⟨hk, ha', by omega, hb', hc', by omega, hd'⟩
      obtain rfl | rfl | rfl | rfl | rfl | rfl | rfl | ho : op = 1 ∨ op = 2 ∨ op = 3 ∨ op = 4 ∨ op = 5 ∨ op = 6 ∨ op = 7 ∨ (op = 8 ∨ op = 9 ∨ op = 10) := by omega
      · exact more_mul k a b c d a' b' c' d' hk h1 h2 h3 h4 hab hcd
      · exact more_div k a b c d a' b' c' d' g g' h1 h2 h3 h4
      · exact more_rem k a b c d a' b' c' d' g g' h1 h2 h3 h4
      · exact more_add k a b c d a' b' c' d' hk h1 h2 h3 h4 hab hcd
      · exact more_sub k a b c d a' b' c' d' hk h1 h2 h3 h4 hab hcd
      · exact more_shl k a b c d a' b' c' d' hk h1 h2 h3 h4 hab
      · exact more_shr k a b c d a' b' c' d' h1 h2 h3 h4 hab
      · exact more_bits op k a b c d a' b' c' d' ho g g' h1 h2 h3 h4
end Go.Proofs.Ytgkhldbnljdeiaa.RangesMath

/- The plain arithmetic of RangesTight: of few values the effect is the least one. -/
namespace Go.Proofs.Ytgkhldbnljdeiaa.RangesMath
open Go Go.RowKit

/-- A pair of values that neither traps nor is undefined. -/
def Valid (op k v w : Int) : Prop := trapV op w = false ∧ undefV op k v w = false

/-- The ends of an effect are results. -/
structure Exact (op k a b c d : Int) (E : Eff) : Prop where
  lo : E.some = true → ∃ v w, a ≤ v ∧ v ≤ b ∧ c ≤ w ∧ w ≤ d ∧ Valid op k v w ∧ doneV op k v w = E.lo
  hi : E.some = true → ∃ v w, a ≤ v ∧ v ≤ b ∧ c ≤ w ∧ w ≤ d ∧ Valid op k v w ∧ doneV op k v w = E.hi
  none : E.some = false → E.lo = 0 ∧ E.hi = 0

/-- Few and small values. -/
structure Few (a b c d : Int) : Prop where
  hab : a ≤ b
  hcd : c ≤ d
  a1 : -1000 < a
  b1 : b < 1000
  c1 : -1000 < c
  d1 : d < 1000

theorem valid_plain (op k v w : Int) (h : ¬ (op = 2 ∨ op = 3)) (h' : ¬ (op = 6 ∨ op = 7)) : Valid op k v w := by
  refine ⟨?_, ?_⟩
  · simp [trapV]; omega
  · unfold undefV; rw [if_neg h, if_neg h']

theorem fin_int (l h : Int) (h1 : -9223372036854775808 ≤ l) (h2 : l ≤ 9223372036854775807) (h3 : -9223372036854775808 ≤ h) (h4 : h ≤ 9223372036854775807) : fin l h 1 = (l, h) := by
  unfold fin
  have : (out64 l || out64 h) = false := by simp [out64]; omega
  rw [this]; rfl
theorem wrap_int (n : Int) (h1 : -9223372036854775808 ≤ n) (h2 : n ≤ 9223372036854775807) : wrap64 n = n := by unfold wrap64; omega

theorem min4_mem (x y z t : Int) : min4 x y z t = x ∨ min4 x y z t = y ∨ min4 x y z t = z ∨ min4 x y z t = t := by unfold min4; omega
theorem max4_mem (x y z t : Int) : max4 x y z t = x ∨ max4 x y z t = y ∨ max4 x y z t = z ∨ max4 x y z t = t := by unfold max4; omega

theorem mul_small (x y : Int) (h1 : -1000 ≤ x) (h2 : x ≤ 1000) (h3 : -1000 ≤ y) (h4 : y ≤ 1000) : -1000000 ≤ x * y ∧ x * y ≤ 1000000 := by
  have := mul_corners (-1000) 1000 (-1000) 1000 x y h1 h2 h3 h4
  simp at this; omega
theorem shl_small (x : Int) (n : Nat) (h1 : -1000 ≤ x) (h2 : x ≤ 1000) (hn : n ≤ 40) : -1099511627776000 ≤ x * 2 ^ n ∧ x * 2 ^ n ≤ 1099511627776000 := by
  have p := pow_mono n 40 hn
  have p0 : (0 : Int) ≤ 2 ^ n := Int.le_of_lt (Int.pow_pos (by omega))
  have := mul_corners (-1000) 1000 0 (2 ^ 40) x (2 ^ n) h1 h2 p0 p
  simp at this; omega

theorem exact_add (a b c d : Int) (f : Few a b c d) : Exact 4 1 a b c d (binS 4 1 a b c d) := by
  obtain ⟨hab, hcd, a1, b1, c1, d1⟩ := f
  have e : binS 4 1 a b c d = ⟨a + c, b + d, true, false, false⟩ := by
    show Eff.mk (fin (a + c) (b + d) 1).1 (fin (a + c) (b + d) 1).2 true false false = _
    rw [fin_int _ _ (by omega) (by omega) (by omega) (by omega)]
  rw [e]
  refine ⟨fun _ => ⟨a, c, by omega, by omega, by omega, by omega, valid_plain _ _ _ _ (by omega) (by omega), ?_⟩, fun _ => ⟨b, d, by omega, by omega, by omega, by omega, valid_plain _ _ _ _ (by omega) (by omega), ?_⟩, fun h => by simp at h⟩
  · show wrap64 (a + c) = a + c; exact wrap_int _ (by omega) (by omega)
  · show wrap64 (b + d) = b + d; exact wrap_int _ (by omega) (by omega)
theorem exact_sub (a b c d : Int) (f : Few a b c d) : Exact 5 1 a b c d (binS 5 1 a b c d) := by
  obtain ⟨hab, hcd, a1, b1, c1, d1⟩ := f
  have e : binS 5 1 a b c d = ⟨a - d, b - c, true, false, false⟩ := by
    show Eff.mk (fin (a - d) (b - c) 1).1 (fin (a - d) (b - c) 1).2 true false false = _
    rw [fin_int _ _ (by omega) (by omega) (by omega) (by omega)]
  rw [e]
  refine ⟨fun _ => ⟨a, d, by omega, by omega, by omega, by omega, valid_plain _ _ _ _ (by omega) (by omega), ?_⟩, fun _ => ⟨b, c, by omega, by omega, by omega, by omega, valid_plain _ _ _ _ (by omega) (by omega), ?_⟩, fun h => by simp at h⟩
  · show wrap64 (a - d) = a - d; exact wrap_int _ (by omega) (by omega)
  · show wrap64 (b - c) = b - c; exact wrap_int _ (by omega) (by omega)

theorem exact_mul (a b c d : Int) (f : Few a b c d) : Exact 1 1 a b c d (binS 1 1 a b c d) := by
  obtain ⟨hab, hcd, a1, b1, c1, d1⟩ := f
  have s1 := mul_small a c (by omega) (by omega) (by omega) (by omega)
  have s2 := mul_small a d (by omega) (by omega) (by omega) (by omega)
  have s3 := mul_small b c (by omega) (by omega) (by omega) (by omega)
  have s4 := mul_small b d (by omega) (by omega) (by omega) (by omega)
  have e : binS 1 1 a b c d = ⟨min4 (a * c) (a * d) (b * c) (b * d), max4 (a * c) (a * d) (b * c) (b * d), true, false, false⟩ := by
    show Eff.mk (fin (min4 (a * c) (a * d) (b * c) (b * d)) (max4 (a * c) (a * d) (b * c) (b * d)) 1).1 (fin (min4 (a * c) (a * d) (b * c) (b * d)) (max4 (a * c) (a * d) (b * c) (b * d)) 1).2 true false false = _
    rw [fin_int _ _ (by unfold min4; omega) (by unfold min4; omega) (by unfold max4; omega) (by unfold max4; omega)]
  rw [e]
  have key : ∀ x y, a ≤ x → x ≤ b → c ≤ y → y ≤ d → -1000000 ≤ x * y → x * y ≤ 1000000 → ∃ v w, a ≤ v ∧ v ≤ b ∧ c ≤ w ∧ w ≤ d ∧ Valid 1 1 v w ∧ doneV 1 1 v w = x * y := fun x y h1 h2 h3 h4 h5 h6 =>
    ⟨x, y, h1, h2, h3, h4, valid_plain _ _ _ _ (by omega) (by omega), wrap_int _ (by omega) (by omega)⟩
  refine ⟨fun _ => ?_, fun _ => ?_, fun h => by simp at h⟩
  · simp only
    rcases min4_mem (a * c) (a * d) (b * c) (b * d) with h | h | h | h <;> rw [h] <;> apply key <;> omega
  · simp only
    rcases max4_mem (a * c) (a * d) (b * c) (b * d) with h | h | h | h <;> rw [h] <;> apply key <;> omega

theorem exact_shl (a b c d : Int) (f : Few a b c d) (hd : d ≤ 40) : Exact 6 1 a b c d (binS 6 1 a b c d) := by
  obtain ⟨hab, hcd, a1, b1, c1, d1⟩ := f
  have e : binS 6 1 a b c d = if max c 0 ≤ min d (top 1) then _ else _ := rfl
  rw [e]; clear e
  have ht : top 1 = 63 := rfl
  by_cases hs : max c 0 ≤ min d (top 1)
  · rw [if_pos hs]
    have n1 : (max c 0).toNat ≤ 40 := by omega
    have n2 : (min d (top 1)).toNat ≤ 40 := by omega
    have s1 := shl_small a _ (by omega) (by omega) n1
    have s2 := shl_small a _ (by omega) (by omega) n2
    have s3 := shl_small b _ (by omega) (by omega) n1
    have s4 := shl_small b _ (by omega) (by omega) n2
    have key : ∀ x y, a ≤ x → x ≤ b → c ≤ y → y ≤ d → 0 ≤ y → -1099511627776000 ≤ x * 2 ^ y.toNat → x * 2 ^ y.toNat ≤ 1099511627776000 → ∃ v w, a ≤ v ∧ v ≤ b ∧ c ≤ w ∧ w ≤ d ∧ Valid 6 1 v w ∧ doneV 6 1 v w = x * 2 ^ y.toNat := fun x y h1 h2 h3 h4 h0 h5 h6 =>
      ⟨x, y, h1, h2, h3, h4, ⟨by simp [trapV], by simp [undefV, top]; omega⟩, wrap_int _ (by omega) (by omega)⟩
    have w1 : c ≤ max c 0 ∧ max c 0 ≤ d ∧ 0 ≤ max c 0 := by omega
    have w2 : c ≤ min d (top 1) ∧ min d (top 1) ≤ d ∧ 0 ≤ min d (top 1) := by omega
    rw [fin_int _ _ (by unfold min4; omega) (by unfold min4; omega) (by unfold max4; omega) (by unfold max4; omega)]
    refine ⟨fun _ => ?_, fun _ => ?_, fun h => by simp at h⟩
    · simp only
      rcases min4_mem (a * 2 ^ (max c 0).toNat) (a * 2 ^ (min d (top 1)).toNat) (b * 2 ^ (max c 0).toNat) (b * 2 ^ (min d (top 1)).toNat) with h | h | h | h <;> rw [h]
      · exact key a _ (by omega) hab w1.1 w1.2.1 w1.2.2 s1.1 s1.2
      · exact key a _ (by omega) hab w2.1 w2.2.1 w2.2.2 s2.1 s2.2
      · exact key b _ hab (by omega) w1.1 w1.2.1 w1.2.2 s3.1 s3.2
      · exact key b _ hab (by omega) w2.1 w2.2.1 w2.2.2 s4.1 s4.2
    · simp only
      rcases max4_mem (a * 2 ^ (max c 0).toNat) (a * 2 ^ (min d (top 1)).toNat) (b * 2 ^ (max c 0).toNat) (b * 2 ^ (min d (top 1)).toNat) with h | h | h | h <;> rw [h]
      · exact key a _ (by omega) hab w1.1 w1.2.1 w1.2.2 s1.1 s1.2
      · exact key a _ (by omega) hab w2.1 w2.2.1 w2.2.2 s2.1 s2.2
      · exact key b _ hab (by omega) w1.1 w1.2.1 w1.2.2 s3.1 s3.2
      · exact key b _ hab (by omega) w2.1 w2.2.1 w2.2.2 s4.1 s4.2
  · rw [if_neg hs]
    exact ⟨fun h => by simp at h, fun h => by simp at h, fun _ => ⟨rfl, rfl⟩⟩

theorem exact_shr (a b c d : Int) (hab : a ≤ b) : Exact 7 1 a b c d (binS 7 1 a b c d) := by
  have e : binS 7 1 a b c d = if max c 0 ≤ min d (top 1) then _ else _ := rfl
  rw [e]; clear e
  have ht : top 1 = 63 := rfl
  by_cases hs : max c 0 ≤ min d (top 1)
  · rw [if_pos hs]
    have key : ∀ x y, a ≤ x → x ≤ b → c ≤ y → y ≤ d → 0 ≤ y → y ≤ 63 → ∃ v w, a ≤ v ∧ v ≤ b ∧ c ≤ w ∧ w ≤ d ∧ Valid 7 1 v w ∧ doneV 7 1 v w = x / 2 ^ y.toNat := fun x y h1 h2 h3 h4 h0 h5 =>
      ⟨x, y, h1, h2, h3, h4, ⟨by simp [trapV], by simp [undefV, top]; omega⟩, rfl⟩
    have w1 : c ≤ max c 0 ∧ max c 0 ≤ d ∧ 0 ≤ max c 0 ∧ max c 0 ≤ 63 := by omega
    have w2 : c ≤ min d (top 1) ∧ min d (top 1) ≤ d ∧ 0 ≤ min d (top 1) ∧ min d (top 1) ≤ 63 := by omega
    refine ⟨fun _ => ?_, fun _ => ?_, fun h => by simp at h⟩
    · simp only
      rcases min4_mem (a / 2 ^ (max c 0).toNat) (a / 2 ^ (min d (top 1)).toNat) (b / 2 ^ (max c 0).toNat) (b / 2 ^ (min d (top 1)).toNat) with h | h | h | h <;> rw [h]
      · exact key a _ (by omega) hab w1.1 w1.2.1 w1.2.2.1 w1.2.2.2
      · exact key a _ (by omega) hab w2.1 w2.2.1 w2.2.2.1 w2.2.2.2
      · exact key b _ hab (by omega) w1.1 w1.2.1 w1.2.2.1 w1.2.2.2
      · exact key b _ hab (by omega) w2.1 w2.2.1 w2.2.2.1 w2.2.2.2
    · simp only
      rcases max4_mem (a / 2 ^ (max c 0).toNat) (a / 2 ^ (min d (top 1)).toNat) (b / 2 ^ (max c 0).toNat) (b / 2 ^ (min d (top 1)).toNat) with h | h | h | h <;> rw [h]
      · exact key a _ (by omega) hab w1.1 w1.2.1 w1.2.2.1 w1.2.2.2
      · exact key a _ (by omega) hab w2.1 w2.2.1 w2.2.2.1 w2.2.2.2
      · exact key b _ hab (by omega) w1.1 w1.2.1 w1.2.2.1 w1.2.2.2
      · exact key b _ hab (by omega) w2.1 w2.2.1 w2.2.2.1 w2.2.2.2
  · rw [if_neg hs]
    exact ⟨fun h => by simp at h, fun h => by simp at h, fun _ => ⟨rfl, rfl⟩⟩

theorem hullLo_mem (l : List Pr) (h : l ≠ []) : ∃ p ∈ l, hullLo l = p.lo := by
  induction l with
  | nil => simp at h
  | cons x l ih =>
    cases l with
    | nil => exact ⟨x, by simp, rfl⟩
    | cons q l =>
      obtain ⟨p, hp, e⟩ := ih (by simp)
      have : hullLo (x :: q :: l) = min x.lo (hullLo (q :: l)) := rfl
      by_cases hx : x.lo ≤ hullLo (q :: l)
      · exact ⟨x, by simp, by omega⟩
      · exact ⟨p, List.mem_cons_of_mem _ hp, by omega⟩
theorem hullHi_mem (l : List Pr) (h : l ≠ []) : ∃ p ∈ l, hullHi l = p.hi := by
  induction l with
  | nil => simp at h
  | cons x l ih =>
    cases l with
    | nil => exact ⟨x, by simp, rfl⟩
    | cons q l =>
      obtain ⟨p, hp, e⟩ := ih (by simp)
      have : hullHi (x :: q :: l) = max x.hi (hullHi (q :: l)) := rfl
      by_cases hx : hullHi (q :: l) ≤ x.hi
      · exact ⟨x, by simp, by omega⟩
      · exact ⟨p, List.mem_cons_of_mem _ hp, by omega⟩

theorem exact_div (a b c d : Int) (ha : least ≤ a) (hab : a ≤ b) (hcd : c ≤ d) : Exact 2 1 a b c d (binS 2 1 a b c d) := by
  have e : binS 2 1 a b c d = if pairsS 1 a b c d = [] then _ else _ := rfl
  rw [e]; clear e
  by_cases hp : pairsS 1 a b c d = []
  · rw [if_pos hp]
    exact ⟨fun h => by simp at h, fun h => by simp at h, fun _ => ⟨rfl, rfl⟩⟩
  · rw [if_neg hp]
    have corner : ∀ p ∈ pairsS 1 a b c d, ∀ x y, (x = p.a ∨ x = p.b) → (y = p.c ∨ y = p.d) → ∃ v w, a ≤ v ∧ v ≤ b ∧ c ≤ w ∧ w ≤ d ∧ Valid 2 1 v w ∧ doneV 2 1 v w = x.tdiv y := by
      intro p h x y hx hy
      obtain ⟨q1, q2, q3, q4, q5, q6, q7, q8, q9⟩ := pairs_corner 1 a b c d ha hab hcd p h
      have q9 := q9 rfl
      refine ⟨x, y, by omega, by omega, by omega, by omega, ⟨?_, ?_⟩, rfl⟩
      · simp [trapV]; omega
      · simp [undefV]; intro hxl hy1; omega
    refine ⟨fun _ => ?_, fun _ => ?_, fun h => by simp at h⟩
    · obtain ⟨p, hpm, e⟩ := hullLo_mem _ hp
      simp only; rw [e]; unfold Pr.lo
      rcases min4_mem (p.a.tdiv p.c) (p.a.tdiv p.d) (p.b.tdiv p.c) (p.b.tdiv p.d) with h | h | h | h <;> rw [h] <;> exact corner p hpm _ _ (by simp) (by simp)
    · obtain ⟨p, hpm, e⟩ := hullHi_mem _ hp
      simp only; rw [e]; unfold Pr.hi
      rcases max4_mem (p.a.tdiv p.c) (p.a.tdiv p.d) (p.b.tdiv p.c) (p.b.tdiv p.d) with h | h | h | h <;> rw [h] <;> exact corner p hpm _ _ (by simp) (by simp)

theorem exact_comp (op k a b c d : Int) (o1 : 11 ≤ op) (o2 : op ≤ 16) (hab : a ≤ b) (hcd : c ≤ d) : Exact op k a b c d (binS op k a b c d) := by
  have e : binS op k a b c d = ⟨(compS op a b c d).1, (compS op a b c d).2, true, false, false⟩ := by
    obtain rfl | rfl | rfl | rfl | rfl | rfl : op = 11 ∨ op = 12 ∨ op = 13 ∨ op = 14 ∨ op = 15 ∨ op = 16 := by omega
    all_goals rfl
  have hd' : ∀ v w, doneV op k v w = (if holdsB op v w then 1 else 0) := by
    obtain rfl | rfl | rfl | rfl | rfl | rfl : op = 11 ∨ op = 12 ∨ op = 13 ∨ op = 14 ∨ op = 15 ∨ op = 16 := by omega
    all_goals intro v w; rfl
  rw [e]
  have key : ∀ x y n, a ≤ x → x ≤ b → c ≤ y → y ≤ d → (if holdsB op x y then (1 : Int) else 0) = n → ∃ v w, a ≤ v ∧ v ≤ b ∧ c ≤ w ∧ w ≤ d ∧ Valid op k v w ∧ doneV op k v w = n := fun x y n h1 h2 h3 h4 h5 =>
    ⟨x, y, h1, h2, h3, h4, valid_plain _ _ _ _ (by omega) (by omega), by rw [hd']; exact h5⟩
  have no : ∀ (P : Prop) [Decidable P], ¬ P → (if P then (1 : Int) else 0) = 0 := fun P _ h => if_neg h
  have ye : ∀ (P : Prop) [Decidable P], P → (if P then (1 : Int) else 0) = 1 := fun P _ h => if_pos h
  -- two values that differ, if not all are one
  have differ : ¬ ((a = b ∧ a = c) ∧ b = d) → ∃ x y, a ≤ x ∧ x ≤ b ∧ c ≤ y ∧ y ≤ d ∧ x ≠ y := by
    intro h
    by_cases h1 : a = c
    · by_cases h2 : b = d
      · exact ⟨a, d, by omega, by omega, by omega, by omega, by omega⟩
      · exact ⟨b, d, by omega, by omega, by omega, by omega, by omega⟩
    · exact ⟨a, c, by omega, by omega, by omega, by omega, by omega⟩
  refine ⟨fun _ => ?_, fun _ => ?_, fun h => by simp at h⟩
  · simp only
    obtain rfl | rfl | rfl | rfl | rfl | rfl : op = 11 ∨ op = 12 ∨ op = 13 ∨ op = 14 ∨ op = 15 ∨ op = 16 := by omega
    all_goals simp only [compS, truthR, holdsB, Int.reduceEq, if_true, if_false, Bool.and_eq_true, beq_iff_eq, Bool.or_eq_true, decide_eq_true_eq, bne_iff_ne, ne_eq] at key ⊢
    · by_cases h : (a = b ∧ a = c) ∧ b = d
      · rw [if_pos h]; exact key a c 1 (by omega) (by omega) (by omega) (by omega) (ye _ (by omega))
      · rw [if_neg h]; obtain ⟨x, y, h1, h2, h3, h4, h5⟩ := differ h; exact key x y 0 h1 h2 h3 h4 (no _ h5)
    · by_cases h : b < c ∨ d < a
      · rw [if_pos h]; exact key a c 1 (by omega) (by omega) (by omega) (by omega) (ye _ (by omega))
      · rw [if_neg h]; exact key (max a c) (max a c) 0 (by omega) (by omega) (by omega) (by omega) (no _ (by omega))
    · by_cases h : b < c
      · rw [if_pos h]; exact key a c 1 (by omega) (by omega) (by omega) (by omega) (ye _ (by omega))
      · rw [if_neg h]; exact key b c 0 (by omega) (by omega) (by omega) (by omega) (no _ (by omega))
    · by_cases h : b ≤ c
      · rw [if_pos h]; exact key a c 1 (by omega) (by omega) (by omega) (by omega) (ye _ (by omega))
      · rw [if_neg h]; exact key b c 0 (by omega) (by omega) (by omega) (by omega) (no _ (by omega))
    · by_cases h : d < a
      · rw [if_pos h]; exact key a c 1 (by omega) (by omega) (by omega) (by omega) (ye _ (by omega))
      · rw [if_neg h]; exact key a d 0 (by omega) (by omega) (by omega) (by omega) (no _ (by omega))
    · by_cases h : d ≤ a
      · rw [if_pos h]; exact key a c 1 (by omega) (by omega) (by omega) (by omega) (ye _ (by omega))
      · rw [if_neg h]; exact key a d 0 (by omega) (by omega) (by omega) (by omega) (no _ (by omega))
  · simp only
    obtain rfl | rfl | rfl | rfl | rfl | rfl : op = 11 ∨ op = 12 ∨ op = 13 ∨ op = 14 ∨ op = 15 ∨ op = 16 := by omega
    all_goals simp only [compS, truthR, holdsB, Int.reduceEq, if_true, if_false, Bool.and_eq_true, beq_iff_eq, Bool.or_eq_true, decide_eq_true_eq, bne_iff_ne, ne_eq] at key ⊢
    · by_cases h : (a = b ∧ a = c) ∧ b = d
      · rw [if_pos h]; exact key a c 1 (by omega) (by omega) (by omega) (by omega) (ye _ (by omega))
      · rw [if_neg h]
        by_cases h' : b < c ∨ d < a
        · rw [if_pos h']; exact key a c 0 (by omega) (by omega) (by omega) (by omega) (no _ (by omega))
        · rw [if_neg h']; exact key (max a c) (max a c) 1 (by omega) (by omega) (by omega) (by omega) (ye _ rfl)
    · by_cases h : b < c ∨ d < a
      · rw [if_pos h]; exact key a c 1 (by omega) (by omega) (by omega) (by omega) (ye _ (by omega))
      · rw [if_neg h]
        by_cases h' : (a = b ∧ a = c) ∧ b = d
        · rw [if_pos h']; exact key a c 0 (by omega) (by omega) (by omega) (by omega) (no _ (by omega))
        · rw [if_neg h']; obtain ⟨x, y, h1, h2, h3, h4, h5⟩ := differ h'; exact key x y 1 h1 h2 h3 h4 (ye _ h5)
    · by_cases h : b < c
      · rw [if_pos h]; exact key a c 1 (by omega) (by omega) (by omega) (by omega) (ye _ (by omega))
      · rw [if_neg h]
        by_cases h' : d ≤ a
        · rw [if_pos h']; exact key a c 0 (by omega) (by omega) (by omega) (by omega) (no _ (by omega))
        · rw [if_neg h']; exact key a d 1 (by omega) (by omega) (by omega) (by omega) (ye _ (by omega))
    · by_cases h : b ≤ c
      · rw [if_pos h]; exact key a c 1 (by omega) (by omega) (by omega) (by omega) (ye _ (by omega))
      · rw [if_neg h]
        by_cases h' : d < a
        · rw [if_pos h']; exact key a c 0 (by omega) (by omega) (by omega) (by omega) (no _ (by omega))
        · rw [if_neg h']; exact key a d 1 (by omega) (by omega) (by omega) (by omega) (ye _ (by omega))
    · by_cases h : d < a
      · rw [if_pos h]; exact key a c 1 (by omega) (by omega) (by omega) (by omega) (ye _ (by omega))
      · rw [if_neg h]
        by_cases h' : b ≤ c
        · rw [if_pos h']; exact key a c 0 (by omega) (by omega) (by omega) (by omega) (no _ (by omega))
        · rw [if_neg h']; exact key b c 1 (by omega) (by omega) (by omega) (by omega) (ye _ (by omega))
    · by_cases h : d ≤ a
      · rw [if_pos h]; exact key a c 1 (by omega) (by omega) (by omega) (by omega) (ye _ (by omega))
      · rw [if_neg h]
        by_cases h' : b < c
        · rw [if_pos h']; exact key a c 0 (by omega) (by omega) (by omega) (by omega) (no _ (by omega))
        · rw [if_neg h']; exact key b c 1 (by omega) (by omega) (by omega) (by omega) (ye _ (by omega))

theorem exact_land (a b c d : Int) (ha : 0 ≤ a) (hab : a ≤ b) (hb : b ≤ 1) (hc : 0 ≤ c) (hcd : c ≤ d) (hd : d ≤ 1) : Exact 17 3 a b c d (binS 17 3 a b c d) := by
  have e : binS 17 3 a b c d = ⟨a * c, b * d, true, false, false⟩ := rfl
  rw [e]
  have s1 := mul_small a c (by omega) (by omega) (by omega) (by omega)
  have s2 := mul_small b d (by omega) (by omega) (by omega) (by omega)
  exact ⟨fun _ => ⟨a, c, by omega, by omega, by omega, by omega, valid_plain _ _ _ _ (by omega) (by omega), wrap_int _ (by omega) (by omega)⟩, fun _ => ⟨b, d, by omega, by omega, by omega, by omega, valid_plain _ _ _ _ (by omega) (by omega), wrap_int _ (by omega) (by omega)⟩, fun h => by simp at h⟩
theorem exact_lor (a b c d : Int) (hab : a ≤ b) (hcd : c ≤ d) : Exact 18 3 a b c d (binS 18 3 a b c d) := by
  have e : binS 18 3 a b c d = ⟨max a c, max b d, true, false, false⟩ := rfl
  rw [e]
  exact ⟨fun _ => ⟨a, c, by omega, by omega, by omega, by omega, valid_plain _ _ _ _ (by omega) (by omega), rfl⟩, fun _ => ⟨b, d, by omega, by omega, by omega, by omega, valid_plain _ _ _ _ (by omega) (by omega), rfl⟩, fun h => by simp at h⟩

/-- Of the operators that are exact. -/
theorem exact_all (op k a b c d : Int) (hf : fitsB op k = true) (hk2 : k ≠ 2) (ha : fullLow k ≤ a) (hb : b ≤ fullHigh k) (hc : fullLow k ≤ c) (hd : d ≤ fullHigh k) (f : Few a b c d)
    (ho : op = 4 ∨ op = 5 ∨ op = 1 ∨ op = 2 ∨ op = 6 ∨ op = 7 ∨ 11 ≤ op) (h6 : op = 6 → d ≤ 40) : Exact op k a b c d (binS op k a b c d) := by
  simp only [fitsB, decide_eq_true_eq] at hf
  have hab := f.hab
  have hcd := f.hcd
  by_cases h : 11 ≤ op ∧ op ≤ 16
  · exact exact_comp op k a b c d h.1 h.2 hab hcd
  · by_cases hk3 : k = 3
    · subst hk3
      simp only [fullLow, fullHigh, Int.reduceEq, if_true, if_false] at ha hb hc hd
      obtain rfl | rfl : op = 17 ∨ op = 18 := by omega
      · exact exact_land a b c d ha hab hb hc hcd hd
      · exact exact_lor a b c d hab hcd
    · obtain rfl : k = 1 := by omega
      simp only [fullLow, if_true] at ha
      obtain rfl | rfl | rfl | rfl | rfl | rfl : op = 4 ∨ op = 5 ∨ op = 1 ∨ op = 2 ∨ op = 6 ∨ op = 7 := by omega
      · exact exact_add a b c d f
      · exact exact_sub a b c d f
      · exact exact_mul a b c d f
      · exact exact_div a b c d ha hab hcd
      · exact exact_shl a b c d f (h6 rfl)
      · exact exact_shr a b c d hab
end Go.Proofs.Ytgkhldbnljdeiaa.RangesMath

/- The plain arithmetic of RangesTight: what the two loops have found so far. -/
namespace Go.Proofs.Ytgkhldbnljdeiaa.RangesMath
open Go Go.RowKit

/-- What has been found when all pairs before (V, W) have been looked at. -/
structure Seen (op k a b c d : Int) (E : Eff) (V W : Int) (s : Bool) (rl rh : Int) : Prop where
  no : s = false → rl = 0 ∧ rh = 0 ∧ ∀ v w, a ≤ v → v ≤ b → c ≤ w → w ≤ d → (v < V ∨ v = V ∧ w < W) → ¬ Valid op k v w
  yes : s = true → E.some = true ∧ E.lo ≤ rl ∧ rh ≤ E.hi ∧ ∀ v w, a ≤ v → v ≤ b → c ≤ w → w ≤ d → (v < V ∨ v = V ∧ w < W) → Valid op k v w → rl ≤ doneV op k v w ∧ doneV op k v w ≤ rh

theorem seen_start (op k a b c d : Int) (E : Eff) : Seen op k a b c d E a c false 0 0 :=
  ⟨fun _ => ⟨rfl, rfl, fun v w h1 _ h3 _ h => by omega⟩, fun h => by simp at h⟩

/-- All pairs of a row have been looked at. -/
theorem seen_row {op k a b c d : Int} {E : Eff} {V W : Int} {s : Bool} {rl rh : Int} (h : Seen op k a b c d E V W s rl rh) (hW : d < W) : Seen op k a b c d E (V + 1) c s rl rh :=
  ⟨fun hs => ⟨(h.no hs).1, (h.no hs).2.1, fun v w h1 h2 h3 h4 hp => (h.no hs).2.2 v w h1 h2 h3 h4 (by omega)⟩,
   fun hs => ⟨(h.yes hs).1, (h.yes hs).2.1, (h.yes hs).2.2.1, fun v w h1 h2 h3 h4 hp => (h.yes hs).2.2.2 v w h1 h2 h3 h4 (by omega)⟩⟩

theorem seen_skip {op k a b c d : Int} {E : Eff} {V W : Int} {s : Bool} {rl rh : Int} (h : Seen op k a b c d E V W s rl rh) (hv : ¬ Valid op k V W) : Seen op k a b c d E V (W + 1) s rl rh := by
  have sp : ∀ v w : Int, (v < V ∨ v = V ∧ w < W + 1) → (v < V ∨ v = V ∧ w < W) ∨ (v = V ∧ w = W) := fun v w hp => by omega
  refine ⟨fun hs => ⟨(h.no hs).1, (h.no hs).2.1, fun v w h1 h2 h3 h4 hp => ?_⟩, fun hs => ⟨(h.yes hs).1, (h.yes hs).2.1, (h.yes hs).2.2.1, fun v w h1 h2 h3 h4 hp hval => ?_⟩⟩
  · rcases sp v w hp with q | ⟨rfl, rfl⟩
    · exact (h.no hs).2.2 v w h1 h2 h3 h4 q
    · exact hv
  · rcases sp v w hp with q | ⟨rfl, rfl⟩
    · exact (h.yes hs).2.2.2 v w h1 h2 h3 h4 q hval
    · exact absurd hval hv

theorem seen_first {op k a b c d : Int} {E : Eff} {V W n rl rh : Int} (h : Seen op k a b c d E V W false rl rh) (hE : E.some = true ∧ E.lo ≤ n ∧ n ≤ E.hi) (hn : n = doneV op k V W) : Seen op k a b c d E V (W + 1) true n n := by
  have sp : ∀ v w : Int, (v < V ∨ v = V ∧ w < W + 1) → (v < V ∨ v = V ∧ w < W) ∨ (v = V ∧ w = W) := fun v w hp => by omega
  refine ⟨fun hs => by simp at hs, fun _ => ⟨hE.1, hE.2.1, hE.2.2, fun v w h1 h2 h3 h4 hp hval => ?_⟩⟩
  rcases sp v w hp with q | ⟨rfl, rfl⟩
  · exact absurd hval ((h.no rfl).2.2 v w h1 h2 h3 h4 q)
  · rw [← hn]; exact ⟨Int.le_refl _, Int.le_refl _⟩

theorem seen_more {op k a b c d : Int} {E : Eff} {V W n rl rh : Int} (h : Seen op k a b c d E V W true rl rh) (hE : E.some = true ∧ E.lo ≤ n ∧ n ≤ E.hi) (hn : n = doneV op k V W) : Seen op k a b c d E V (W + 1) true (min rl n) (max rh n) := by
  have sp : ∀ v w : Int, (v < V ∨ v = V ∧ w < W + 1) → (v < V ∨ v = V ∧ w < W) ∨ (v = V ∧ w = W) := fun v w hp => by omega
  have y := h.yes rfl
  refine ⟨fun hs => by simp at hs, fun _ => ⟨hE.1, by omega, by omega, fun v w h1 h2 h3 h4 hp hval => ?_⟩⟩
  rcases sp v w hp with q | ⟨rfl, rfl⟩
  · have := y.2.2.2 v w h1 h2 h3 h4 q hval; omega
  · rw [← hn]; omega

theorem seen_end {op k a b c d : Int} {E : Eff} {V W : Int} {s : Bool} {rl rh : Int} (h : Seen op k a b c d E V W s rl rh) (hV : b < V) (hX : Exact op k a b c d E) : s = E.some ∧ rl = E.lo ∧ rh = E.hi := by
  cases hs : E.some with
  | true =>
    obtain ⟨v, w, h1, h2, h3, h4, hv, e⟩ := hX.lo hs
    obtain ⟨v', w', h1', h2', h3', h4', hv', e'⟩ := hX.hi hs
    cases s with
    | true =>
      have y := h.yes rfl
      have q := y.2.2.2 v w h1 h2 h3 h4 (by omega) hv
      have q' := y.2.2.2 v' w' h1' h2' h3' h4' (by omega) hv'
      exact ⟨rfl, by omega, by omega⟩
    | false => exact absurd hv ((h.no rfl).2.2 v w h1 h2 h3 h4 (by omega))
  | false =>
    have z := hX.none hs
    cases s with
    | true => have := (h.yes rfl).1; rw [hs] at this; simp at this
    | false => have q := h.no rfl; exact ⟨rfl, by omega, by omega⟩
end Go.Proofs.Ytgkhldbnljdeiaa.RangesMath
