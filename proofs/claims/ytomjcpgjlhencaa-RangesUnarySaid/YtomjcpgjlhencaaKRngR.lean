/- The contracts of the closures of comparisons of layer 4. -/
import Derived.Test.YtomjcpgjlhencaaKRngQ
set_option linter.unusedSimpArgs false
set_option linter.unusedVariables false
namespace Go.Proofs.Ytomjcpgjlhencaa
open Go.RowKit
attribute [local go_sem] World.setCell_self

/-- What ordered returns. -/
def ordS (a b c d g : Int) : Two := if a + g ≤ d then ⟨a, min b (d - g), max c (a + g), d, true⟩ else ⟨0, 0, 0, 0, false⟩
theorem pord_any (a b c d g : Int) (w : World) (hg : g = 0 ∨ g = 1) (h1 : -9223372036854775808 ≤ a) (h2 : d ≤ 9223372036854775807) :
    Calls Try.prog 74 #[.agg #[.int .i64 a, .int .i64 b], .agg #[.int .i64 c, .int .i64 d], .int .i64 g] w fun e w' => e = .returned (TwoV (ordS a b c d g)) ∧ Below w.heap.size w w' := by
  unfold ordS
  by_cases h : a + g ≤ d
  · rw [if_pos h]; exact pord_yes a b c d g _ _ w hg h h1 h2 rfl rfl
  · rw [if_neg h]; exact pord_no a b c d g w hg (by omega)
def Ord (a b c d g x0 x1 y0 y1 : Int) (p : Bool) : Prop := ∀ w, Hid (Calls Try.prog 74 #[.agg #[.int .i64 a, .int .i64 b], .agg #[.int .i64 c, .int .i64 d], .int .i64 g] w fun e w' => e = .returned (.tuple #[.agg #[.int .i64 x0, .int .i64 x1], .agg #[.int .i64 y0, .int .i64 y1], .bool p]) ∧ Below w.heap.size w w')

set_option maxRecDepth 100000 in
set_option maxHeartbeats 2000000 in
theorem pcmp1 (a b c d x0 x1 y0 y1 : Int) (p : Bool) (w : World) (O : Ord a b c d 1 x0 x1 y0 y1 p) :
    Calls Try.prog 73 #[.agg #[.int .i64 a, .int .i64 b], .agg #[.int .i64 c, .int .i64 d]] w fun e w' => e = .returned (TwoV ⟨x0, x1, y0, y1, p⟩) ∧ Below w.heap.size w w' := by
  have O := Lib.hid O
  go_enter Try.func73, Try.ntmps73
  go_wp2_with (go_at_call 74; refine (O.out _).out.mono ?_; rintro e w' ⟨rfl, hb⟩; have I := (narIn w a b c d).later hb; obtain ⟨a0, a1, b0, b1, u0, u1, v0, v1, fx0, fx1, fy0, fy1, sz, bl⟩ := I)
  refine bodyPost_ret (v := TwoV ⟨x0, x1, y0, y1, p⟩) (by simp [results, Try.results73, go_sem, TwoV, u0, u1, v0, v1]) rfl ⟨rfl, ?_⟩
  exact bl.setCell (by simp; omega) _ |>.setCell (by simp; omega) _ |>.setCell (by simp; omega) _ |>.setCell (by simp; omega) _

set_option maxRecDepth 100000 in
set_option maxHeartbeats 2000000 in
theorem pcmp2 (a b c d x0 x1 y0 y1 : Int) (p : Bool) (w : World) (O : Ord a b c d 0 x0 x1 y0 y1 p) :
    Calls Try.prog 75 #[.agg #[.int .i64 a, .int .i64 b], .agg #[.int .i64 c, .int .i64 d]] w fun e w' => e = .returned (TwoV ⟨x0, x1, y0, y1, p⟩) ∧ Below w.heap.size w w' := by
  have O := Lib.hid O
  go_enter Try.func75, Try.ntmps75
  go_wp2_with (go_at_call 74; refine (O.out _).out.mono ?_; rintro e w' ⟨rfl, hb⟩; have I := (narIn w a b c d).later hb; obtain ⟨a0, a1, b0, b1, u0, u1, v0, v1, fx0, fx1, fy0, fy1, sz, bl⟩ := I)
  refine bodyPost_ret (v := TwoV ⟨x0, x1, y0, y1, p⟩) (by simp [results, Try.results75, go_sem, TwoV, u0, u1, v0, v1]) rfl ⟨rfl, ?_⟩
  exact bl.setCell (by simp; omega) _ |>.setCell (by simp; omega) _ |>.setCell (by simp; omega) _ |>.setCell (by simp; omega) _

set_option maxRecDepth 100000 in
set_option maxHeartbeats 2000000 in
theorem pcmp3 (a b c d x0 x1 y0 y1 : Int) (p : Bool) (w : World) (O : Ord c d a b 1 y0 y1 x0 x1 p) :
    Calls Try.prog 76 #[.agg #[.int .i64 a, .int .i64 b], .agg #[.int .i64 c, .int .i64 d]] w fun e w' => e = .returned (TwoV ⟨x0, x1, y0, y1, p⟩) ∧ Below w.heap.size w w' := by
  have O := Lib.hid O
  go_enter Try.func76, Try.ntmps76
  go_wp2_with (go_at_call 74; refine (O.out _).out.mono ?_; rintro e w' ⟨rfl, hb⟩; have I := (narIn w a b c d).later hb; obtain ⟨a0, a1, b0, b1, u0, u1, v0, v1, fx0, fx1, fy0, fy1, sz, bl⟩ := I)
  go_region
  go_wp2
  refine bodyPost_ret (v := TwoV ⟨x0, x1, y0, y1, p⟩) (by simp [results, Try.results76, go_sem, TwoV, u0, u1, v0, v1]) rfl ⟨rfl, ?_⟩
  repeat (first | exact bl | refine Below.drew ?_ | refine Below.setCell ?_ (by simp; try omega) _)

set_option maxRecDepth 100000 in
set_option maxHeartbeats 2000000 in
theorem pcmp4 (a b c d x0 x1 y0 y1 : Int) (p : Bool) (w : World) (O : Ord c d a b 0 y0 y1 x0 x1 p) :
    Calls Try.prog 77 #[.agg #[.int .i64 a, .int .i64 b], .agg #[.int .i64 c, .int .i64 d]] w fun e w' => e = .returned (TwoV ⟨x0, x1, y0, y1, p⟩) ∧ Below w.heap.size w w' := by
  have O := Lib.hid O
  go_enter Try.func77, Try.ntmps77
  go_wp2_with (go_at_call 74; refine (O.out _).out.mono ?_; rintro e w' ⟨rfl, hb⟩; have I := (narIn w a b c d).later hb; obtain ⟨a0, a1, b0, b1, u0, u1, v0, v1, fx0, fx1, fy0, fy1, sz, bl⟩ := I)
  go_region
  go_wp2
  refine bodyPost_ret (v := TwoV ⟨x0, x1, y0, y1, p⟩) (by simp [results, Try.results77, go_sem, TwoV, u0, u1, v0, v1]) rfl ⟨rfl, ?_⟩
  repeat (first | exact bl | refine Below.drew ?_ | refine Below.setCell ?_ (by simp; try omega) _)

theorem narS_lt {a b c d : Int} (h : Ok64 a b) (g : Ok64 c d) : narS 13 a b c d = ordS a b c d 1 := by
  obtain ⟨h1, h2, h3⟩ := h
  obtain ⟨g1, g2, g3⟩ := g
  unfold narS ordS
  show (if (ltLeft a b c d).p = true then ltLeft a b c d else _) = _
  unfold ltLeft
  by_cases k : a + 1 ≤ d
  · have k2 : ¬ (d = -9223372036854775808 ∨ a = 9223372036854775807) := by omega
    rw [if_neg k2, if_pos k, if_pos (by simp; omega)]
    simp; omega
  · rw [if_neg k]
    by_cases k2 : d = -9223372036854775808 ∨ a = 9223372036854775807
    · rw [if_pos k2]; rfl
    · rw [if_neg k2, if_neg (by simp; omega)]
theorem narS_le {a b c d : Int} : narS 14 a b c d = ordS a b c d 0 := by
  unfold narS ordS
  show (if (leLeft a b c d).p = true then leLeft a b c d else _) = _
  unfold leLeft
  by_cases k : a ≤ d
  · rw [if_pos (by simpa using k), if_pos (by omega)]
    simp [k]
  · rw [if_neg (by simpa using k), if_neg (by omega)]
theorem narS_gt (a b c d : Int) : narS 15 a b c d = (narS 13 c d a b).swap := by
  unfold narS
  show (if (ltLeft c d a b).swap.p = true then (ltLeft c d a b).swap else _) = (if (ltLeft c d a b).p = true then ltLeft c d a b else _).swap
  by_cases k : (ltLeft c d a b).p = true
  · rw [if_pos k, if_pos (show (ltLeft c d a b).swap.p = true from k)]
  · rw [if_neg k, if_neg (show ¬ (ltLeft c d a b).swap.p = true from k)]; rfl
theorem narS_ge (a b c d : Int) : narS 16 a b c d = (narS 14 c d a b).swap := by
  unfold narS
  show (if (leLeft c d a b).swap.p = true then (leLeft c d a b).swap else _) = (if (leLeft c d a b).p = true then leLeft c d a b else _).swap
  by_cases k : (leLeft c d a b).p = true
  · rw [if_pos k, if_pos (show (leLeft c d a b).swap.p = true from k)]
  · rw [if_neg k, if_neg (show ¬ (leLeft c d a b).swap.p = true from k)]; rfl

theorem pcmp1_nar : NarOut 73 13 := by
  intro a b c d w h g
  rw [narS_lt h g]
  exact pcmp1 a b c d _ _ _ _ _ w (fun w => Lib.hid (pord_any a b c d 1 w (.inr rfl) h.lo g.hi))
theorem pcmp2_nar : NarOut 75 14 := by
  intro a b c d w h g
  rw [narS_le]
  exact pcmp2 a b c d _ _ _ _ _ w (fun w => Lib.hid (pord_any a b c d 0 w (.inl rfl) h.lo g.hi))
theorem pcmp3_nar : NarOut 76 15 := by
  intro a b c d w h g
  rw [narS_gt, narS_lt g h]
  exact pcmp3 a b c d _ _ _ _ _ w (fun w => Lib.hid (pord_any c d a b 1 w (.inr rfl) g.lo h.hi))
theorem pcmp4_nar : NarOut 77 16 := by
  intro a b c d w h g
  rw [narS_ge, narS_le]
  exact pcmp4 a b c d _ _ _ _ _ w (fun w => Lib.hid (pord_any c d a b 0 w (.inl rfl) g.lo h.hi))

end Go.Proofs.Ytomjcpgjlhencaa
