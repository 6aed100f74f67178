/- RefR, RefS, RefT0. -/
import Derived.Test.YtgkhldbnljdeiaaKRefHToRefQ
import Derived.Deep.RegionHeld3
import Derived.Deep.RegionWith
set_option linter.unusedSimpArgs false
set_option linter.unusedVariables false
/- The contract of the reference function Unary of layer 4, the rest and the whole. -/
namespace Go.Proofs.Ytgkhldbnljdeiaa
open Go.RowKit
attribute [local go_sem] World.setCell_self

theorem check_small {a b : Int} (h : checkErr 2 a b = 0) : 0 ≤ a ∧ a ≤ b ∧ b ≤ 255 := by
  unfold checkErr at h
  split at h
  · rename_i g; simp [fullErr, fullLow, fullHigh] at g; omega
  · omega
theorem check_bool {a b : Int} (h : checkErr 3 a b = 0) : 0 ≤ a ∧ a ≤ b ∧ b ≤ 1 := by
  unfold checkErr at h
  split at h
  · rename_i g; simp [fullErr, fullLow, fullHigh] at g; omega
  · omega

set_option maxRecDepth 100000 in
set_option maxHeartbeats 1000000 in
theorem unary_not (a b : Int) (w : World) (hc : checkErr 3 a b = 0) :
    Calls Try.prog 20 #[.int .i64 2, .int .i64 3, .agg #[.int .i64 a, .int .i64 b]] w fun e w' => e = .returned (.tuple #[.agg #[.int .i64 (1 - b), .int .i64 (1 - a)], .int .i64 0]) ∧ Below w.heap.size w w' := by
  have F := fun w => Lib.hid (fits1_any 2 3 w)
  rw [show fits1 2 3 = true from rfl] at F
  have C := fun w => Lib.hid (check_any 3 a b w)
  rw [hc] at C
  obtain ⟨b0, b1, b2⟩ := check_bool hc
  clear hc
  go_enter Try.func20, Try.ntmps20
  go_wp2_with fail
  refine (F _).out.mono ?_
  rintro e w1 ⟨rfl, rfl⟩
  go_wp2_with fail
  refine (C _).out.mono ?_
  rintro e w1 ⟨rfl, hB1⟩
  obtain ⟨a0, a1, r0, r1, f0, f1, s0, s1, bl⟩ := (oneIn w a b).later hB1
  clear hB1
  go_wp2
  refine bodyPost_ret (v := .tuple #[.agg #[.int .i64 (1 - b), .int .i64 (1 - a)], .int .i64 0]) (by simp [results, Try.results20, go_sem, *]) rfl ⟨rfl, (bl.setCell (by simp) _).setCell (by simp) _⟩

set_option maxRecDepth 100000 in
set_option maxHeartbeats 1000000 in
theorem unary_comp_small (a b : Int) (w : World) (hc : checkErr 2 a b = 0) :
    Calls Try.prog 20 #[.int .i64 3, .int .i64 2, .agg #[.int .i64 a, .int .i64 b]] w fun e w' => e = .returned (.tuple #[.agg #[.int .i64 (255 - b), .int .i64 (255 - a)], .int .i64 0]) ∧ Below w.heap.size w w' := by
  have F := fun w => Lib.hid (fits1_any 3 2 w)
  rw [show fits1 3 2 = true from rfl] at F
  have C := fun w => Lib.hid (check_any 2 a b w)
  rw [hc] at C
  obtain ⟨b0, b1, b2⟩ := check_small hc
  clear hc
  go_enter Try.func20, Try.ntmps20
  go_wp2_with fail
  refine (F _).out.mono ?_
  rintro e w1 ⟨rfl, rfl⟩
  go_wp2_with fail
  refine (C _).out.mono ?_
  rintro e w1 ⟨rfl, hB1⟩
  obtain ⟨a0, a1, r0, r1, f0, f1, s0, s1, bl⟩ := (oneIn w a b).later hB1
  clear hB1
  go_wp2
  refine bodyPost_ret (v := .tuple #[.agg #[.int .i64 (255 - b), .int .i64 (255 - a)], .int .i64 0]) (by simp [results, Try.results20, go_sem, *]) rfl ⟨rfl, (bl.setCell (by simp) _).setCell (by simp) _⟩

set_option maxRecDepth 100000 in
set_option maxHeartbeats 1000000 in
theorem unary_comp_int (a b : Int) (w : World) (hc : checkErr 1 a b = 0) :
    Calls Try.prog 20 #[.int .i64 3, .int .i64 1, .agg #[.int .i64 a, .int .i64 b]] w fun e w' => e = .returned (.tuple #[.agg #[.int .i64 (-1 - b), .int .i64 (-1 - a)], .int .i64 0]) ∧ Below w.heap.size w w' := by
  have F := fun w => Lib.hid (fits1_any 3 1 w)
  rw [show fits1 3 1 = true from rfl] at F
  have C := fun w => Lib.hid (check_any 1 a b w)
  rw [hc] at C
  obtain ⟨b0, b1, b2⟩ := check_ok64 hc
  clear hc
  go_enter Try.func20, Try.ntmps20
  go_wp2_with fail
  refine (F _).out.mono ?_
  rintro e w1 ⟨rfl, rfl⟩
  go_wp2_with fail
  refine (C _).out.mono ?_
  rintro e w1 ⟨rfl, hB1⟩
  obtain ⟨a0, a1, r0, r1, f0, f1, s0, s1, bl⟩ := (oneIn w a b).later hB1
  clear hB1
  go_wp2
  refine bodyPost_ret (v := .tuple #[.agg #[.int .i64 (-1 - b), .int .i64 (-1 - a)], .int .i64 0]) (by simp [results, Try.results20, go_sem, *]) rfl ⟨rfl, (bl.setCell (by simp) _).setCell (by simp) _⟩

/-- What Unary makes of a range: its ends and the error. -/
def unaryS (op k a b : Int) : Int × Int × Int :=
  if fits1 op k = true ∧ checkErr k a b = 0 then
    if op = 1 then
      let s := broughtS (min (min (min (wrap64 (0 - a)) (wrap64 (0 - b))) (wrap64 (0 - a))) (wrap64 (0 - b))) (max (max (max (wrap64 (0 - a)) (wrap64 (0 - b))) (wrap64 (0 - a))) (wrap64 (0 - b))) (((out64 (0 - a) || out64 (0 - b)) || out64 (0 - a)) || out64 (0 - b)) k
      (s.1, s.2, 0)
    else if op = 2 then (1 - b, 1 - a, 0)
    else if k = 2 then (255 - b, 255 - a, 0)
    else (-1 - b, -1 - a, 0)
  else (0, 0, 2)

theorem unary_any (op k a b : Int) (w : World) :
    Calls Try.prog 20 #[.int .i64 op, .int .i64 k, .agg #[.int .i64 a, .int .i64 b]] w fun e w' => e = .returned (.tuple #[.agg #[.int .i64 (unaryS op k a b).1, .int .i64 (unaryS op k a b).2.1], .int .i64 (unaryS op k a b).2.2]) ∧ Below w.heap.size w w' := by
  unfold unaryS
  by_cases h : fits1 op k = true ∧ checkErr k a b = 0
  · rw [if_pos h]
    obtain ⟨hf, hc⟩ := h
    have h64 := check_ok64 hc
    have ha : In64 a := ⟨h64.lo, by have := h64.le; have := h64.hi; omega⟩
    have hb : In64 b := ⟨by have := h64.le; have := h64.lo; omega, h64.hi⟩
    have hz : In64 0 := ⟨by omega, by omega⟩
    have hf' := hf
    simp only [fits1, decide_eq_true_eq] at hf'
    by_cases h1 : op = 1
    · subst h1
      rw [if_pos rfl]
      refine unary_neg k a b _ _ _ _ _ w hf hc (fun w => Lib.hid (corners_sub 0 0 a b w _ _ _ _ _ _ _ _ ?_ ?_ ?_ ?_)) (fun w => Lib.hid (brought_any _ _ k _ w))
      · exact fun w => Lib.hid ((difference_any 0 a w hz ha).mono fun _ _ ⟨he, hw⟩ => ⟨he, hw ▸ Below.refl _ _⟩)
      · exact fun w => Lib.hid ((difference_any 0 b w hz hb).mono fun _ _ ⟨he, hw⟩ => ⟨he, hw ▸ Below.refl _ _⟩)
      · exact fun w => Lib.hid ((difference_any 0 a w hz ha).mono fun _ _ ⟨he, hw⟩ => ⟨he, hw ▸ Below.refl _ _⟩)
      · exact fun w => Lib.hid ((difference_any 0 b w hz hb).mono fun _ _ ⟨he, hw⟩ => ⟨he, hw ▸ Below.refl _ _⟩)
    · rw [if_neg h1]
      by_cases h2 : op = 2
      · have hk : k = 3 := by omega
        subst h2; subst hk
        exact unary_not a b w hc
      · rw [if_neg h2]
        have h3 : op = 3 := by omega
        subst h3
        by_cases hk : k = 2
        · subst hk; exact unary_comp_small a b w hc
        · have hk1 : k = 1 := by omega
          subst hk1; exact unary_comp_int a b w hc
  · rw [if_neg h]
    cases hf : fits1 op k
    · exact unary_fits op k a b w hf
    · exact unary_check op k a b w hf (by simp; exact fun hc => h ⟨hf, hc⟩)

end Go.Proofs.Ytgkhldbnljdeiaa

/- The contract of the reference function compared of layer 4. -/
namespace Go.Proofs.Ytgkhldbnljdeiaa
open Go.RowKit
attribute [local go_sem] World.setCell_self

/-- Two ranges that came in, and the result's range. -/
structure TwoIn (w wx : World) (a b c d : Int) : Prop where
  a0 : wx.cell? ⟨w.heap.size, 0, none⟩ = some (.int .i64 a)
  a1 : wx.cell? ⟨w.heap.size, 1, none⟩ = some (.int .i64 b)
  b0 : wx.cell? ⟨w.heap.size + 1, 0, none⟩ = some (.int .i64 c)
  b1 : wx.cell? ⟨w.heap.size + 1, 1, none⟩ = some (.int .i64 d)
  r0 : wx.cell? ⟨w.heap.size + 1 + 1, 0, none⟩ = some (.int .i64 0)
  r1 : wx.cell? ⟨w.heap.size + 1 + 1, 1, none⟩ = some (.int .i64 0)
  f0 : wx.frozen? ⟨w.heap.size + 1 + 1, 0, none⟩ = false
  f1 : wx.frozen? ⟨w.heap.size + 1 + 1, 1, none⟩ = false
  s0 : w.heap.size < wx.heap.size
  s1 : w.heap.size + 1 < wx.heap.size
  s2 : w.heap.size + 1 + 1 < wx.heap.size
  bl : Below w.heap.size w wx

theorem TwoIn.later {w wx wy : World} {a b c d : Int} (h : TwoIn w wx a b c d) (hb : Below wx.heap.size wx wy) : TwoIn w wy a b c d :=
  ⟨cell_later hb h.a0, cell_later hb h.a1, cell_later hb h.b0, cell_later hb h.b1, cell_later hb h.r0, cell_later hb h.r1, keepFr hb h.s2 h.f0, keepFr hb h.s2 h.f1, Nat.lt_of_lt_of_le h.s0 hb.size, Nat.lt_of_lt_of_le h.s1 hb.size, Nat.lt_of_lt_of_le h.s2 hb.size, h.bl.trans (hb.mono (Nat.le_of_lt h.s0))⟩
theorem twoIn (w : World) (a b c d : Int) : TwoIn w (((w.alloc (.cells #[.int .i64 a, .int .i64 b] 23)).alloc (.cells #[.int .i64 c, .int .i64 d] 23)).alloc (.cells #[.int .i64 0, .int .i64 0] 23)) a b c d :=
  ⟨by go_simp, by go_simp, by go_simp, by go_simp, by go_simp, by go_simp, by go_simp, by go_simp, by (simp; try omega), by (simp; try omega), by (simp; try omega), (((Below.refl _ _).alloc (Nat.le_refl _) _).alloc (by simp) _).alloc (by simp; omega) _⟩

def truthS (p q : Bool) : Int × Int := (if p then 1 else 0, if p then 1 else if q then 0 else 1)
theorem truth_S (p q : Bool) (w : World) : Calls Try.prog 66 #[.bool p, .bool q] w fun e w' => e = .returned (.agg #[.int .i64 (truthS p q).1, .int .i64 (truthS p q).2]) ∧ Below w.heap.size w w' := truth_any p q w

set_option maxRecDepth 100000 in
set_option maxHeartbeats 1000000 in
theorem compared_13 (a b c d : Int) (w : World) :
    Calls Try.prog 41 #[.int .i64 13, .agg #[.int .i64 a, .int .i64 b], .agg #[.int .i64 c, .int .i64 d]] w fun e w' => e = .returned (.agg #[.int .i64 (truthS (decide (b < c)) (decide (d ≤ a))).1, .int .i64 (truthS (decide (b < c)) (decide (d ≤ a))).2]) ∧ Below w.heap.size w w' := by
  have T := fun w => Lib.hid (truth_S (decide (b < c)) (decide (d ≤ a)) w)
  generalize (truthS (decide (b < c)) (decide (d ≤ a))).1 = x at *
  generalize (truthS (decide (b < c)) (decide (d ≤ a))).2 = y at *
  go_enter Try.func41, Try.ntmps41
  go_wp2_with fail
  refine (T _).out.mono ?_
  rintro e w1 ⟨rfl, hB⟩
  obtain ⟨a0, a1, b0, b1, r0, r1, f0, f1, s0, s1, s2, bl⟩ := (twoIn w a b c d).later hB
  clear hB
  go_wp2
  refine bodyPost_ret (v := .agg #[.int .i64 x, .int .i64 y]) (by simp [results, Try.results41, go_sem, *]) rfl ⟨rfl, (bl.setCell (by simp; omega) _).setCell (by simp; omega) _⟩

set_option maxRecDepth 100000 in
set_option maxHeartbeats 1000000 in
theorem compared_14 (a b c d : Int) (w : World) :
    Calls Try.prog 41 #[.int .i64 14, .agg #[.int .i64 a, .int .i64 b], .agg #[.int .i64 c, .int .i64 d]] w fun e w' => e = .returned (.agg #[.int .i64 (truthS (decide (b ≤ c)) (decide (d < a))).1, .int .i64 (truthS (decide (b ≤ c)) (decide (d < a))).2]) ∧ Below w.heap.size w w' := by
  have T := fun w => Lib.hid (truth_S (decide (b ≤ c)) (decide (d < a)) w)
  generalize (truthS (decide (b ≤ c)) (decide (d < a))).1 = x at *
  generalize (truthS (decide (b ≤ c)) (decide (d < a))).2 = y at *
  go_enter Try.func41, Try.ntmps41
  go_wp2_with fail
  refine (T _).out.mono ?_
  rintro e w1 ⟨rfl, hB⟩
  obtain ⟨a0, a1, b0, b1, r0, r1, f0, f1, s0, s1, s2, bl⟩ := (twoIn w a b c d).later hB
  clear hB
  go_wp2
  refine bodyPost_ret (v := .agg #[.int .i64 x, .int .i64 y]) (by simp [results, Try.results41, go_sem, *]) rfl ⟨rfl, (bl.setCell (by simp; omega) _).setCell (by simp; omega) _⟩

set_option maxRecDepth 100000 in
set_option maxHeartbeats 1000000 in
theorem compared_15 (a b c d : Int) (w : World) :
    Calls Try.prog 41 #[.int .i64 15, .agg #[.int .i64 a, .int .i64 b], .agg #[.int .i64 c, .int .i64 d]] w fun e w' => e = .returned (.agg #[.int .i64 (truthS (decide (d < a)) (decide (b ≤ c))).1, .int .i64 (truthS (decide (d < a)) (decide (b ≤ c))).2]) ∧ Below w.heap.size w w' := by
  have T := fun w => Lib.hid (truth_S (decide (d < a)) (decide (b ≤ c)) w)
  generalize (truthS (decide (d < a)) (decide (b ≤ c))).1 = x at *
  generalize (truthS (decide (d < a)) (decide (b ≤ c))).2 = y at *
  go_enter Try.func41, Try.ntmps41
  go_wp2_with fail
  refine (T _).out.mono ?_
  rintro e w1 ⟨rfl, hB⟩
  obtain ⟨a0, a1, b0, b1, r0, r1, f0, f1, s0, s1, s2, bl⟩ := (twoIn w a b c d).later hB
  clear hB
  go_wp2
  refine bodyPost_ret (v := .agg #[.int .i64 x, .int .i64 y]) (by simp [results, Try.results41, go_sem, *]) rfl ⟨rfl, (bl.setCell (by simp; omega) _).setCell (by simp; omega) _⟩

set_option maxRecDepth 100000 in
set_option maxHeartbeats 1000000 in
theorem compared_16 (a b c d : Int) (w : World) :
    Calls Try.prog 41 #[.int .i64 16, .agg #[.int .i64 a, .int .i64 b], .agg #[.int .i64 c, .int .i64 d]] w fun e w' => e = .returned (.agg #[.int .i64 (truthS (decide (d ≤ a)) (decide (b < c))).1, .int .i64 (truthS (decide (d ≤ a)) (decide (b < c))).2]) ∧ Below w.heap.size w w' := by
  have T := fun w => Lib.hid (truth_S (decide (d ≤ a)) (decide (b < c)) w)
  generalize (truthS (decide (d ≤ a)) (decide (b < c))).1 = x at *
  generalize (truthS (decide (d ≤ a)) (decide (b < c))).2 = y at *
  go_enter Try.func41, Try.ntmps41
  go_wp2_with fail
  refine (T _).out.mono ?_
  rintro e w1 ⟨rfl, hB⟩
  obtain ⟨a0, a1, b0, b1, r0, r1, f0, f1, s0, s1, s2, bl⟩ := (twoIn w a b c d).later hB
  clear hB
  go_wp2
  refine bodyPost_ret (v := .agg #[.int .i64 x, .int .i64 y]) (by simp [results, Try.results41, go_sem, *]) rfl ⟨rfl, (bl.setCell (by simp; omega) _).setCell (by simp; omega) _⟩

end Go.Proofs.Ytgkhldbnljdeiaa

/- The variables of the reference function compared of layer 4. -/
namespace Go.Proofs.Ytgkhldbnljdeiaa
open Go.RowKit
attribute [local go_sem] World.setCell_self

/-- What a cell holds, whatever it is. -/
def valAt (w : World) (a : Addr) : Value := (w.cell? a).getD (.int .i64 0)
theorem valAt_some {w : World} {a : Addr} (h : (w.cell? a).isSome = true) : w.cell? a = some (valAt w a) := by
  unfold valAt
  obtain ⟨v, hv⟩ := Option.isSome_iff_exists.1 h
  rw [hv]; rfl

/-- As TwoIn, whatever the result's range holds. -/
structure TwoAny (w wx : World) (a b c d : Int) : Prop where
  a0 : wx.cell? ⟨w.heap.size, 0, none⟩ = some (.int .i64 a)
  a1 : wx.cell? ⟨w.heap.size, 1, none⟩ = some (.int .i64 b)
  b0 : wx.cell? ⟨w.heap.size + 1, 0, none⟩ = some (.int .i64 c)
  b1 : wx.cell? ⟨w.heap.size + 1, 1, none⟩ = some (.int .i64 d)
  e0 : (wx.cell? ⟨w.heap.size + 1 + 1, 0, none⟩).isSome = true
  e1 : (wx.cell? ⟨w.heap.size + 1 + 1, 1, none⟩).isSome = true
  f0 : wx.frozen? ⟨w.heap.size + 1 + 1, 0, none⟩ = false
  f1 : wx.frozen? ⟨w.heap.size + 1 + 1, 1, none⟩ = false
  s2 : w.heap.size + 1 + 1 < wx.heap.size
  bl : Below w.heap.size w wx
theorem some_later {w wx : World} {a : Addr} (hb : Below w.heap.size w wx) (h : (w.cell? a).isSome = true) : (wx.cell? a).isSome = true := by
  obtain ⟨v, hv⟩ := Option.isSome_iff_exists.1 h
  rw [cell_later hb hv]; rfl
theorem TwoAny.later {w wx wy : World} {a b c d : Int} (h : TwoAny w wx a b c d) (hb : Below wx.heap.size wx wy) : TwoAny w wy a b c d :=
  ⟨cell_later hb h.a0, cell_later hb h.a1, cell_later hb h.b0, cell_later hb h.b1, some_later hb h.e0, some_later hb h.e1, keepFr hb h.s2 h.f0, keepFr hb h.s2 h.f1, Nat.lt_of_lt_of_le h.s2 hb.size, h.bl.trans (hb.mono (by have := h.s2; omega))⟩
theorem TwoIn.any {w wx : World} {a b c d : Int} (h : TwoIn w wx a b c d) : TwoAny w wx a b c d := ⟨h.a0, h.a1, h.b0, h.b1, by rw [h.r0]; rfl, by rw [h.r1]; rfl, h.f0, h.f1, h.s2, h.bl⟩
theorem TwoAny.set {w wx : World} {a b c d : Int} (h : TwoAny w wx a b c d) (x y : Int) : TwoAny w ((wx.setCell ⟨w.heap.size + 1 + 1, 0, none⟩ (.int .i64 x)).setCell ⟨w.heap.size + 1 + 1, 1, none⟩ (.int .i64 y)) a b c d := by
  obtain ⟨a0, a1, b0, b1, e0, e1, f0, f1, s2, bl⟩ := h
  have e0 := valAt_some e0
  have e1 := valAt_some e1
  generalize valAt wx ⟨w.heap.size + 1 + 1, 0, none⟩ = z0 at *
  generalize valAt wx ⟨w.heap.size + 1 + 1, 1, none⟩ = z1 at *
  exact ⟨by go_simp, by go_simp, by go_simp, by go_simp, by go_simp, by go_simp, by go_simp, by go_simp, by simpa [World.setCell] using s2, (bl.setCell (by simp; omega) _).setCell (by simp; omega) _⟩
/-- The limbs that the walk names. -/
theorem TwoAny.limbs {w wx : World} {a b c d : Int} (h : TwoAny w wx a b c d) : wx.cell? ⟨w.heap.size, 0, none⟩ = some (.int .i64 a) ∧ wx.cell? ⟨w.heap.size, 1, none⟩ = some (.int .i64 b) ∧ wx.cell? ⟨w.heap.size + 1, 0, none⟩ = some (.int .i64 c) ∧ wx.cell? ⟨w.heap.size + 1, 1, none⟩ = some (.int .i64 d) ∧ wx.cell? ⟨w.heap.size + 1 + 1, 0, none⟩ = some (valAt wx ⟨w.heap.size + 1 + 1, 0, none⟩) ∧ wx.cell? ⟨w.heap.size + 1 + 1, 1, none⟩ = some (valAt wx ⟨w.heap.size + 1 + 1, 1, none⟩) ∧ wx.frozen? ⟨w.heap.size + 1 + 1, 0, none⟩ = false ∧ wx.frozen? ⟨w.heap.size + 1 + 1, 1, none⟩ = false ∧ TwoAny w wx a b c d :=
  ⟨h.a0, h.a1, h.b0, h.b1, valAt_some h.e0, valAt_some h.e1, h.f0, h.f1, h⟩

end Go.Proofs.Ytgkhldbnljdeiaa
