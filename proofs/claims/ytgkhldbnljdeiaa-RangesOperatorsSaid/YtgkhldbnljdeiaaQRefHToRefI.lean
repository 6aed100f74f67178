/- RefH, RefI. -/
import Derived.RegionTactic
import Derived.ChangeAlike
import Derived.BigRegion
import Derived.Deep.RegionHeld3
import Derived.Deep.DeepCutAuto
import Derived.Deep.CutBlock
import Derived.Test.YtgkhldbnljdeiaaQRefG
import Derived.Test.YtgkhldbnljdeiaaQShownToLawSets
import Derived.Test.YtgkhldbnljdeiaaQSetSelfToRefB
set_option maxRecDepth 100000
set_option maxHeartbeats 2000000
set_option linter.unusedSimpArgs false
set_option linter.unusedVariables false
namespace Go.Proofs.Ytgkhldbnljdeiaa
open Go.RowKit
attribute [local go_sem] World.setCell_self
theorem stay {w wx : World} {b : Nat} {i : Nat} {v : Value} (hb : Below w.heap.size w wx) (h : w.cell? ⟨b, i, none⟩ = some v) : wx.cell? ⟨b, i, none⟩ = some v := cell_later hb h
theorem stayF {w wx : World} {b : Nat} {i : Nat} (hb : Below w.heap.size w wx) (hl : b < w.heap.size) (h : w.frozen? ⟨b, i, none⟩ = false) : wx.frozen? ⟨b, i, none⟩ = false := by
 rw [hb.frozen (p := ⟨b, i, none⟩) hl]; exact h
/-- The cells of a, b, x and y within left, and their marks. -/
structure In (w wx : World) (a b c d x0 x1 y0 y1 : Int) : Prop where
 a0 : wx.cell? ⟨w.heap.size, 0, none⟩ = some (.int .i64 a)
 a1 : wx.cell? ⟨w.heap.size, 1, none⟩ = some (.int .i64 b)
 b0 : wx.cell? ⟨w.heap.size + 1, 0, none⟩ = some (.int .i64 c)
 b1 : wx.cell? ⟨w.heap.size + 1, 1, none⟩ = some (.int .i64 d)
 x0 : wx.cell? ⟨w.heap.size + 1 + 1, 0, none⟩ = some (.int .i64 x0)
 x1 : wx.cell? ⟨w.heap.size + 1 + 1, 1, none⟩ = some (.int .i64 x1)
 y0 : wx.cell? ⟨w.heap.size + 1 + 1 + 1, 0, none⟩ = some (.int .i64 y0)
 y1 : wx.cell? ⟨w.heap.size + 1 + 1 + 1, 1, none⟩ = some (.int .i64 y1)
 fx0 : wx.frozen? ⟨w.heap.size + 1 + 1, 0, none⟩ = false
 fx1 : wx.frozen? ⟨w.heap.size + 1 + 1, 1, none⟩ = false
 fy0 : wx.frozen? ⟨w.heap.size + 1 + 1 + 1, 0, none⟩ = false
 fy1 : wx.frozen? ⟨w.heap.size + 1 + 1 + 1, 1, none⟩ = false
 sz : w.heap.size + 1 + 1 + 1 < wx.heap.size
 bl : Below w.heap.size w wx
theorem In.later {w wx wy : World} {a b c d x0 x1 y0 y1 : Int} (h : In w wx a b c d x0 x1 y0 y1) (hb : Below wx.heap.size wx wy) : In w wy a b c d x0 x1 y0 y1 :=
 ⟨stay hb h.a0, stay hb h.a1, stay hb h.b0, stay hb h.b1, stay hb h.x0, stay hb h.x1, stay hb h.y0, stay hb h.y1, stayF hb (by have := h.sz; omega) h.fx0, stayF hb (by have := h.sz; omega) h.fx1, stayF hb (by have := h.sz; omega) h.fy0, stayF hb (by have := h.sz; omega) h.fy1, Nat.lt_of_lt_of_le h.sz hb.size, h.bl.trans (hb.mono (by have := h.sz; omega))⟩
theorem In.setX {w wx : World} {a b c d x0 x1 y0 y1 : Int} (h : In w wx a b c d x0 x1 y0 y1) (u v : Int) : In w ((wx.setCell ⟨w.heap.size + 1 + 1, 0, none⟩ (.int .i64 u)).setCell ⟨w.heap.size + 1 + 1, 1, none⟩ (.int .i64 v)) a b c d u v y0 y1 := by
 obtain ⟨a0, a1, b0, b1, x0, x1, y0, y1, fx0, fx1, fy0, fy1, sz, bl⟩ := h
 exact ⟨by go_simp, by go_simp, by go_simp, by go_simp, by go_simp, by go_simp, by go_simp, by go_simp, by go_simp, by go_simp, by go_simp, by go_simp, by simpa [World.setCell] using sz, (bl.setCell (by simp; omega) _).setCell (by simp; omega) _⟩
theorem In.setY {w wx : World} {a b c d x0 x1 y0 y1 : Int} (h : In w wx a b c d x0 x1 y0 y1) (u v : Int) : In w ((wx.setCell ⟨w.heap.size + 1 + 1 + 1, 0, none⟩ (.int .i64 u)).setCell ⟨w.heap.size + 1 + 1 + 1, 1, none⟩ (.int .i64 v)) a b c d x0 x1 u v := by
 obtain ⟨a0, a1, b0, b1, x0, x1, y0, y1, fx0, fx1, fy0, fy1, sz, bl⟩ := h
 exact ⟨by go_simp, by go_simp, by go_simp, by go_simp, by go_simp, by go_simp, by go_simp, by go_simp, by go_simp, by go_simp, by go_simp, by go_simp, by simpa [World.setCell] using sz, (bl.setCell (by simp; omega) _).setCell (by simp; omega) _⟩
theorem In.mid {w wx : World} {a b c d x0 x1 y0 y1 : Int} (h : In w wx a b c d x0 x1 y0 y1) : LeftMid w wx x0 x1 y0 y1 := ⟨h.x0, h.x1, h.y0, h.y1, h.fx0, h.fx1, h.fy0, h.fy1, h.bl⟩
theorem left_ne (a b c d : Int) (w : World) (hab : a ≤ b) (hcd : c ≤ d) (ha : -9223372036854775808 ≤ a) (hb : b ≤ 9223372036854775807) (hc : -9223372036854775808 ≤ c) (hd : d ≤ 9223372036854775807) (p q : Bool) (x0 x1 y0 y1 : Int) (hp : (c == d) = p) (hq : (a == b) = q) (hx0 : x0 = if p then woLow a b c else a) (hx1 : x1 = if p then woHigh a b c else b) (hy0 : y0 = if q then woLow c d a else c) (hy1 : y1 = if q then woHigh c d a else d) (r1 r2 : Bool) (hr1 : decide (x0 ≤ x1) = r1) (hr2 : decide (y0 ≤ y1) = r2) :
   Calls Try.prog 48 #[.int .i64 12, .agg #[.int .i64 a, .int .i64 b], .agg #[.int .i64 c, .int .i64 d]] w fun e w' => e = .returned (.tuple #[.agg #[.int .i64 x0, .int .i64 x1], .agg #[.int .i64 y0, .int .i64 y1], .bool (r1 && r2)]) ∧ Below w.heap.size w w' := by
 have CX := fun w => Lib.hid (without_any a b c w hab ha hb)
 have CY := fun w => Lib.hid (without_any c d a w hcd hc hd)
 have S1 := fun w => Lib.hid (single_any c d w)
 have S2 := fun w => Lib.hid (single_any a b w)
 rw [hp] at S1
 rw [hq] at S2
 have HX0 := Lib.hid hx0
 have HX1 := Lib.hid hx1
 have HY0 := Lib.hid hy0
 have HY1 := Lib.hid hy1
 generalize woLow a b c = wx0 at *
 generalize woHigh a b c = wx1 at *
 generalize woLow c d a = wy0 at *
 generalize woHigh c d a = wy1 at *
 clear hx0 hx1 hy0 hy1 hab hcd ha hb hc hd hp hq
 go_enter Try.func48, Try.ntmps48
 go_wp2
 go_region
 go_upto_block 0 with fail
 go_cut [8] (fun _ wx => LeftMid w wx x0 x1 y0 y1)
 case first =>
   clear hr1 hr2
   go_wp2_with fail
   generalize hW : ((((w.alloc (.cells #[.int .i64 a, .int .i64 b] 23)).alloc (.cells #[.int .i64 c, .int .i64 d] 23)).alloc (.cells #[.int .i64 a, .int .i64 b] 23)).alloc (.cells #[.int .i64 c, .int .i64 d] 23)).drew = W
   have I0 : In w W a b c d a b c d := by
     rw [← hW]
     exact ⟨by clear hW; go_simp, by clear hW; go_simp, by clear hW; go_simp, by clear hW; go_simp, by clear hW; go_simp, by clear hW; go_simp, by clear hW; go_simp, by clear hW; go_simp, by clear hW; go_simp, by clear hW; go_simp, by clear hW; go_simp, by clear hW; go_simp, by clear hW; simp, ((((Below.refl _ _).alloc (Nat.le_refl _) _).alloc (by simp) _).alloc (by simp; omega) _).alloc (by simp; omega) _ |>.drew⟩
   clear hW
   refine (S1 _).out.mono ?_
   rintro e1 w1 ⟨rfl, hB1⟩
   have I1 := I0.later hB1
   clear hB1 I0
   obtain ⟨a0, a1, b0, b1, c0, c1, d0, d1, f0, f1, g0, g1, sz, _⟩ := id I1
   have J1 := Lib.hid I1
   clear I1
   cases p
   · go_wp2_with fail
     refine (S2 _).out.mono ?_
     clear a0 a1 b0 b1 c0 c1 d0 d1 f0 f1 g0 g1 sz
     rintro e2 w2 ⟨rfl, hB2⟩
     have I2 := J1.out.later hB2
     clear hB2 J1
     obtain ⟨a0, a1, b0, b1, c0, c1, d0, d1, f0, f1, g0, g1, sz, _⟩ := id I2
     have J2 := Lib.hid I2
     clear I2
     cases q
     · go_wp2
       go_meet
       have := J2.out.mid
       rw [HX0.out, HX1.out, HY0.out, HY1.out]
       exact this
     · go_wp2_with fail
       refine (CY _).out.mono ?_
       clear a0 a1 b0 b1 c0 c1 d0 d1 f0 f1 g0 g1 sz
       rintro e3 w3 ⟨rfl, hB3⟩
       have I3 := J2.out.later hB3
       clear hB3 J2
       obtain ⟨a0, a1, b0, b1, c0, c1, d0, d1, f0, f1, g0, g1, sz, _⟩ := id I3
       have J3 := Lib.hid I3
       clear I3
       go_wp2
       go_meet
       have := (J3.out.setY wy0 wy1).mid
       rw [HX0.out, HX1.out, HY0.out, HY1.out]
       exact this
   · go_wp2_with fail
     refine (CX _).out.mono ?_
     clear a0 a1 b0 b1 c0 c1 d0 d1 f0 f1 g0 g1 sz
     rintro e2 w2 ⟨rfl, hB2⟩
     have I2 := J1.out.later hB2
     clear hB2 J1
     obtain ⟨a0, a1, b0, b1, c0, c1, d0, d1, f0, f1, g0, g1, sz, _⟩ := id I2
     have J2 := Lib.hid (I2.setX wx0 wx1)
     clear I2
     go_wp2_with fail
     generalize hV : ((w2.setCell ⟨w.heap.size + 1 + 1, 0, none⟩ (.int .i64 wx0)).setCell ⟨w.heap.size + 1 + 1, 1, none⟩ (.int .i64 wx1)) = V at *
     clear hV
     refine (S2 _).out.mono ?_
     clear a0 a1 b0 b1 c0 c1 d0 d1 f0 f1 g0 g1 sz
     rintro e3 w3 ⟨rfl, hB3⟩
     have I3 := J2.out.later hB3
     clear hB3 J2
     obtain ⟨a0, a1, b0, b1, c0, c1, d0, d1, f0, f1, g0, g1, sz, _⟩ := id I3
     have J3 := Lib.hid I3
     clear I3
     cases q
     · go_wp2
       go_meet
       have := J3.out.mid
       rw [HX0.out, HX1.out, HY0.out, HY1.out]
       exact this
     · go_wp2_with fail
       refine (CY _).out.mono ?_
       clear a0 a1 b0 b1 c0 c1 d0 d1 f0 f1 g0 g1 sz
       rintro e4 w4 ⟨rfl, hB4⟩
       have I4 := J3.out.later hB4
       clear hB4 J3
       obtain ⟨a0, a1, b0, b1, c0, c1, d0, d1, f0, f1, g0, g1, sz, _⟩ := id I4
       have J4 := Lib.hid I4
       clear I4
       go_wp2
       go_meet
       have := (J4.out.setY wy0 wy1).mid
       rw [HX0.out, HX1.out, HY0.out, HY1.out]
       exact this
 case rest =>
   obtain ⟨c1, c2, c3, c4, f1, f2, f3, f4, hB⟩ := hcut
   cases r1
   · go_wp2
     go_region
     go_wp2
     refine bodyPost_ret (v := .tuple #[.agg #[.int .i64 x0, .int .i64 x1], .agg #[.int .i64 y0, .int .i64 y1], .bool false]) (by simp [results, Try.results48, go_sem, *]) rfl ⟨rfl, ?_⟩
     exact hB.drew
   · go_wp2
     go_region_held3 (fun w' => w'.cell? ⟨w.heap.size + 1 + 1, 0, none⟩ = some (.int .i64 x0) ∧ w'.cell? ⟨w.heap.size + 1 + 1, 1, none⟩ = some (.int .i64 x1) ∧ w'.cell? ⟨w.heap.size + 1 + 1 + 1, 0, none⟩ = some (.int .i64 y0) ∧ w'.cell? ⟨w.heap.size + 1 + 1 + 1, 1, none⟩ = some (.int .i64 y1))
       (first | go_keep)
       ((fail))
     go_wp2
     refine bodyPost_ret (v := .tuple #[.agg #[.int .i64 x0, .int .i64 x1], .agg #[.int .i64 y0, .int .i64 y1], .bool r2]) (by simp [results, Try.results48, go_sem, *]) rfl ⟨rfl, ?_⟩
     exact hB.drew
end Go.Proofs.Ytgkhldbnljdeiaa
namespace Go.Proofs.Ytgkhldbnljdeiaa
open Go.RowKit
/-- Two ranges and a truth. -/
structure Two where
 x0 : Int
 x1 : Int
 y0 : Int
 y1 : Int
 p : Bool
def leLeft (a b c d : Int) : Two := ⟨a, min b d, max c a, d, decide (a ≤ d)⟩
def ltLeft (a b c d : Int) : Two := if d = -9223372036854775808 ∨ a = 9223372036854775807 then ⟨a, b, c, d, false⟩ else ⟨a, min b (d - 1), max c (a + 1), d, decide (a < d)⟩
def eqLeft (a b c d : Int) : Two := if max a c ≤ min b d then ⟨max a c, min b d, max a c, min b d, true⟩ else ⟨0, 0, 0, 0, false⟩
def neLeft (a b c d : Int) : Two :=
 let x0 := if (c == d) = true then woLow a b c else a
 let x1 := if (c == d) = true then woHigh a b c else b
 let y0 := if (a == b) = true then woLow c d a else c
 let y1 := if (a == b) = true then woHigh c d a else d
 ⟨x0, x1, y0, y1, decide (x0 ≤ x1) && decide (y0 ≤ y1)⟩
def Two.swap (t : Two) : Two := ⟨t.y0, t.y1, t.x0, t.x1, t.p⟩
def leftS (op a b c d : Int) : Two :=
 if op = 11 then eqLeft a b c d else if op = 12 then neLeft a b c d else if op = 13 then ltLeft a b c d else if op = 14 then leLeft a b c d else if op = 15 then (ltLeft c d a b).swap else (leLeft c d a b).swap
def TwoV (t : Two) : Value := .tuple #[.agg #[.int .i64 t.x0, .int .i64 t.x1], .agg #[.int .i64 t.y0, .int .i64 t.y1], .bool t.p]
structure Ok64 (a b : Int) : Prop where
 le : a ≤ b
 lo : -9223372036854775808 ≤ a
 hi : b ≤ 9223372036854775807
theorem lt_any (a b c d : Int) (w : World) (h : Ok64 a b) (g : Ok64 c d) :
   Calls Try.prog 48 #[.int .i64 13, .agg #[.int .i64 a, .int .i64 b], .agg #[.int .i64 c, .int .i64 d]] w fun e w' => e = .returned (TwoV (ltLeft a b c d)) ∧ Below w.heap.size w w' := by
 unfold ltLeft
 by_cases h1 : d = -9223372036854775808
 · rw [if_pos (.inl h1)]
   exact left_lt_edge1 a b c d w (by rw [h1]; rfl)
 · by_cases h2 : a = 9223372036854775807
   · rw [if_pos (.inr h2)]
     exact left_lt_edge2 a b c d w (by simpa using h1) (by rw [h2]; rfl)
   · rw [if_neg (by simp [h1, h2])]
     have := g.le; have := g.lo; have := g.hi; have := h.le; have := h.lo; have := h.hi
     exact left_lt a b c d w h.le g.le (by omega) (by omega) h.hi g.hi h.lo
theorem le_any (a b c d : Int) (w : World) (h : Ok64 a b) (g : Ok64 c d) :
   Calls Try.prog 48 #[.int .i64 14, .agg #[.int .i64 a, .int .i64 b], .agg #[.int .i64 c, .int .i64 d]] w fun e w' => e = .returned (TwoV (leLeft a b c d)) ∧ Below w.heap.size w w' :=
 left_le a b c d w h.le g.le
theorem left_any (op a b c d : Int) (w : World) (h : Ok64 a b) (g : Ok64 c d) (o1 : 11 ≤ op) (o2 : op ≤ 16) :
   Calls Try.prog 48 #[.int .i64 op, .agg #[.int .i64 a, .int .i64 b], .agg #[.int .i64 c, .int .i64 d]] w fun e w' => e = .returned (TwoV (leftS op a b c d)) ∧ Below w.heap.size w w' := by
 obtain rfl | rfl | rfl | rfl | rfl | rfl : op = 11 ∨ op = 12 ∨ op = 13 ∨ op = 14 ∨ op = 15 ∨ op = 16 := by omega
 · show Calls _ _ _ _ fun e w' => e = .returned (TwoV (eqLeft a b c d)) ∧ _
   unfold eqLeft
   by_cases hm : max a c ≤ min b d
   · rw [if_pos hm]; exact left_eq_yes a b c d w h.le g.le hm
   · rw [if_neg hm]; exact left_eq_no a b c d w h.le g.le (by omega)
 · exact left_ne a b c d w h.le g.le h.lo h.hi g.lo g.hi _ _ _ _ _ _ rfl rfl rfl rfl rfl rfl _ _ rfl rfl
 · exact lt_any a b c d w h g
 · exact le_any a b c d w h g
 · exact left_gt a b c d w _ _ _ _ _ (fun w => lt_any c d a b w g h)
 · exact left_ge a b c d w _ _ _ _ _ (fun w => le_any c d a b w g h)
end Go.Proofs.Ytgkhldbnljdeiaa
