/- The contracts of the reference function left of layer 4, operator by operator. -/
import Derived.RegionTactic
import Derived.ChangeAlike
import Derived.BigRegion
import Derived.Deep.RegionHeld3
import Derived.Deep.DeepCutAuto
import Derived.Deep.CutBlock
import Derived.Test.YtomjcpgjlhencaaKRefG
import Derived.Test.YtomjcpgjlhencaaKShown
import Derived.Test.YtomjcpgjlhencaaKRefDToSetSelf
set_option linter.unusedSimpArgs false
set_option linter.unusedVariables false
namespace Go.Proofs.Ytomjcpgjlhencaa
open Go.RowKit
attribute [local go_sem] World.setCell_self


theorem stay {w wx : World} {b : Nat} {i : Nat} {v : Value} (hb : Below w.heap.size w wx) (h : w.cell? ⟨b, i, none⟩ = some v) : wx.cell? ⟨b, i, none⟩ = some v := cell_later hb h
theorem stayF {w wx : World} {b : Nat} {i : Nat} (hb : Below w.heap.size w wx) (hl : b < w.heap.size) (h : w.frozen? ⟨b, i, none⟩ = false) : wx.frozen? ⟨b, i, none⟩ = false := by
  rw [hb.frozen (p := ⟨b, i, none⟩) hl]; exact h

/-- The cells of a, b, x and y within left, and their marks. -/
structure In (w wx : World) (a b c d x0 x1 y0 y1 : Int) : Prop where
  a0 : wx.cell? ⟨w.heap.size, 0, none⟩ = some (.int .i64 a)
  a1 : wx.cell? ⟨w.heap.size, 1, none⟩ = some (.int .i64 b)
  b0 : wx.cell? ⟨w.heap.size + 1, 0, none⟩ = some (.int .i64 c)
  b1 : wx.cell? ⟨w.heap.size + 1, 1, none⟩ = some (.int .i64 d)
  x0 : wx.cell? ⟨w.heap.size + 1 + 1, 0, none⟩ = some (.int .i64 x0)
  x1 : wx.cell? ⟨w.heap.size + 1 + 1, 1, none⟩ = some (.int .i64 x1)
  y0 : wx.cell? ⟨w.heap.size + 1 + 1 + 1, 0, none⟩ = some (.int .i64 y0)
  y1 : wx.cell? ⟨w.heap.size + 1 + 1 + 1, 1, none⟩ = some (.int .i64 y1)
  fx0 : wx.frozen? ⟨w.heap.size + 1 + 1, 0, none⟩ = false
  fx1 : wx.frozen? ⟨w.heap.size + 1 + 1, 1, none⟩ = false
  fy0 : wx.frozen? ⟨w.heap.size + 1 + 1 + 1, 0, none⟩ = false
  fy1 : wx.frozen? ⟨w.heap.size + 1 + 1 + 1, 1, none⟩ = false
  sz : w.heap.size + 1 + 1 + 1 < wx.heap.size
  bl : Below w.heap.size w wx

theorem In.later {w wx wy : World} {a b c d x0 x1 y0 y1 : Int} (h : In w wx a b c d x0 x1 y0 y1) (hb : Below wx.heap.size wx wy) : In w wy a b c d x0 x1 y0 y1 :=
  ⟨stay hb h.a0, stay hb h.a1, stay hb h.b0, stay hb h.b1, stay hb h.x0, stay hb h.x1, stay hb h.y0, stay hb h.y1, stayF hb (by have := h.sz; omega) h.fx0, stayF hb (by have := h.sz; omega) h.fx1, stayF hb (by have := h.sz; omega) h.fy0, stayF hb (by have := h.sz; omega) h.fy1, Nat.lt_of_lt_of_le h.sz hb.size, h.bl.trans (hb.mono (by have := h.sz; omega))⟩

theorem In.setX {w wx : World} {a b c d x0 x1 y0 y1 : Int} (h : In w wx a b c d x0 x1 y0 y1) (u v : Int) : In w ((wx.setCell ⟨w.heap.size + 1 + 1, 0, none⟩ (.int .i64 u)).setCell ⟨w.heap.size + 1 + 1, 1, none⟩ (.int .i64 v)) a b c d u v y0 y1 := by
  obtain ⟨a0, a1, b0, b1, x0, x1, y0, y1, fx0, fx1, fy0, fy1, sz, bl⟩ := h
  exact ⟨by go_simp, by go_simp, by go_simp, by go_simp, by go_simp, by go_simp, by go_simp, by go_simp, by go_simp, by go_simp, by go_simp, by go_simp, by simpa [World.setCell] using sz, (bl.setCell (by simp; omega) _).setCell (by simp; omega) _⟩

theorem In.setY {w wx : World} {a b c d x0 x1 y0 y1 : Int} (h : In w wx a b c d x0 x1 y0 y1) (u v : Int) : In w ((wx.setCell ⟨w.heap.size + 1 + 1 + 1, 0, none⟩ (.int .i64 u)).setCell ⟨w.heap.size + 1 + 1 + 1, 1, none⟩ (.int .i64 v)) a b c d x0 x1 u v := by
  obtain ⟨a0, a1, b0, b1, x0, x1, y0, y1, fx0, fx1, fy0, fy1, sz, bl⟩ := h
  exact ⟨by go_simp, by go_simp, by go_simp, by go_simp, by go_simp, by go_simp, by go_simp, by go_simp, by go_simp, by go_simp, by go_simp, by go_simp, by simpa [World.setCell] using sz, (bl.setCell (by simp; omega) _).setCell (by simp; omega) _⟩

theorem In.mid {w wx : World} {a b c d x0 x1 y0 y1 : Int} (h : In w wx a b c d x0 x1 y0 y1) : LeftMid w wx x0 x1 y0 y1 := ⟨h.x0, h.x1, h.y0, h.y1, h.fx0, h.fx1, h.fy0, h.fy1, h.bl⟩

set_option maxRecDepth 100000 in
set_option maxHeartbeats 2000000 in
theorem left_ne (a b c d : Int) (w : World) (hab : a ≤ b) (hcd : c ≤ d) (ha : -9223372036854775808 ≤ a) (hb : b ≤ 9223372036854775807) (hc : -9223372036854775808 ≤ c) (hd : d ≤ 9223372036854775807) (p q : Bool) (x0 x1 y0 y1 : Int) (hp : (c == d) = p) (hq : (a == b) = q) (hx0 : x0 = if p then woLow a b c else a) (hx1 : x1 = if p then woHigh a b c else b) (hy0 : y0 = if q then woLow c d a else c) (hy1 : y1 = if q then woHigh c d a else d) (r1 r2 : Bool) (hr1 : decide (x0 ≤ x1) = r1) (hr2 : decide (y0 ≤ y1) = r2) :
    Calls Try.prog 48 #[.int .i64 12, .agg #[.int .i64 a, .int .i64 b], .agg #[.int .i64 c, .int .i64 d]] w fun e w' => e = .returned (.tuple #[.agg #[.int .i64 x0, .int .i64 x1], .agg #[.int .i64 y0, .int .i64 y1], .bool (r1 && r2)]) ∧ Below w.heap.size w w' := by
  have CX := fun w => Lib.hid (without_any a b c w hab ha hb)
  have CY := fun w => Lib.hid (without_any c d a w hcd hc hd)
  have S1 := fun w => Lib.hid (single_any c d w)
  have S2 := fun w => Lib.hid (single_any a b w)
  rw [hp] at S1
  rw [hq] at S2
  have HX0 := Lib.hid hx0
  have HX1 := Lib.hid hx1
  have HY0 := Lib.hid hy0
  have HY1 := Lib.hid hy1
  generalize woLow a b c = wx0 at *
  generalize woHigh a b c = wx1 at *
  generalize woLow c d a = wy0 at *
  generalize woHigh c d a = wy1 at *
  clear hx0 hx1 hy0 hy1 hab hcd ha hb hc hd hp hq
  go_enter Try.func48, Try.ntmps48
  go_wp2
  go_region
  go_upto_block 0 with fail
  go_cut [8] (fun _ wx => LeftMid w wx x0 x1 y0 y1)
  case first =>
    clear hr1 hr2
    go_wp2_with fail
    generalize hW : ((((w.alloc (.cells #[.int .i64 a, .int .i64 b] 23)).alloc (.cells #[.int .i64 c, .int .i64 d] 23)).alloc (.cells #[.int .i64 a, .int .i64 b] 23)).alloc (.cells #[.int .i64 c, .int .i64 d] 23)).drew = W
    have I0 : In w W a b c d a b c d := by
      rw [← hW]
      exact ⟨by clear hW; go_simp, by clear hW; go_simp, by clear hW; go_simp, by clear hW; go_simp, by clear hW; go_simp, by clear hW; go_simp, by clear hW; go_simp, by clear hW; go_simp, by clear hW; go_simp, by clear hW; go_simp, by clear hW; go_simp, by clear hW; go_simp, by clear hW; simp, ((((Below.refl _ _).alloc (Nat.le_refl _) _).alloc (by simp) _).alloc (by simp; omega) _).alloc (by simp; omega) _ |>.drew⟩
    clear hW
    refine (S1 _).out.mono ?_
    rintro e1 w1 ⟨rfl, hB1⟩
    have I1 := I0.later hB1
    clear hB1 I0
    obtain ⟨a0, a1, b0, b1, c0, c1, d0, d1, f0, f1, g0, g1, sz, _⟩ := id I1
    have J1 := Lib.hid I1
    clear I1
    cases p
    · go_wp2_with fail
      refine (S2 _).out.mono ?_
      clear a0 a1 b0 b1 c0 c1 d0 d1 f0 f1 g0 g1 sz
      rintro e2 w2 ⟨rfl, hB2⟩
      have I2 := J1.out.later hB2
      clear hB2 J1
      obtain ⟨a0, a1, b0, b1, c0, c1, d0, d1, f0, f1, g0, g1, sz, _⟩ := id I2
      have J2 := Lib.hid I2
      clear I2
      cases q
      · go_wp2
        go_meet
        have := J2.out.mid
        rw [HX0.out, HX1.out, HY0.out, HY1.out]
        exact this
      · go_wp2_with fail
        refine (CY _).out.mono ?_
        clear a0 a1 b0 b1 c0 c1 d0 d1 f0 f1 g0 g1 sz
        rintro e3 w3 ⟨rfl, hB3⟩
        have I3 := J2.out.later hB3
        clear hB3 J2
        obtain ⟨a0, a1, b0, b1, c0, c1, d0, d1, f0, f1, g0, g1, sz, _⟩ := id I3
        have J3 := Lib.hid I3
        clear I3
        go_wp2
        go_meet
        have := (J3.out.setY wy0 wy1).mid
        rw [HX0.out, HX1.out, HY0.out, HY1.out]
        exact this
    · go_wp2_with fail
      refine (CX _).out.mono ?_
      clear a0 a1 b0 b1 c0 c1 d0 d1 f0 f1 g0 g1 sz
      rintro e2 w2 ⟨rfl, hB2⟩
      have I2 := J1.out.later hB2
      clear hB2 J1
      obtain ⟨a0, a1, b0, b1, c0, c1, d0, d1, f0, f1, g0, g1, sz, _⟩ := id I2
      have J2 := Lib.hid (I2.setX wx0 wx1)
      clear I2
      go_wp2_with fail
      generalize hV : ((w2.setCell ⟨w.heap.size + 1 + 1, 0, none⟩ (.int .i64 wx0)).setCell ⟨w.heap.size + 1 + 1, 1, none⟩ (.int .i64 wx1)) = V at *
      clear hV
      refine (S2 _).out.mono ?_
      clear a0 a1 b0 b1 c0 c1 d0 d1 f0 f1 g0 g1 sz
      rintro e3 w3 ⟨rfl, hB3⟩
      have I3 := J2.out.later hB3
      clear hB3 J2
      obtain ⟨a0, a1, b0, b1, c0, c1, d0, d1, f0, f1, g0, g1, sz, _⟩ := id I3
      have J3 := Lib.hid I3
      clear I3
      cases q
      · go_wp2
        go_meet
        have := J3.out.mid
        rw [HX0.out, HX1.out, HY0.out, HY1.out]
        exact this
      · go_wp2_with fail
        refine (CY _).out.mono ?_
        clear a0 a1 b0 b1 c0 c1 d0 d1 f0 f1 g0 g1 sz
        rintro e4 w4 ⟨rfl, hB4⟩
        have I4 := J3.out.later hB4
        clear hB4 J3
        obtain ⟨a0, a1, b0, b1, c0, c1, d0, d1, f0, f1, g0, g1, sz, _⟩ := id I4
        have J4 := Lib.hid I4
        clear I4
        go_wp2
        go_meet
        have := (J4.out.setY wy0 wy1).mid
        rw [HX0.out, HX1.out, HY0.out, HY1.out]
        exact this
  case rest =>
    obtain ⟨c1, c2, c3, c4, f1, f2, f3, f4, hB⟩ := hcut
    cases r1
    · go_wp2
      go_region
      go_wp2
      refine bodyPost_ret (v := .tuple #[.agg #[.int .i64 x0, .int .i64 x1], .agg #[.int .i64 y0, .int .i64 y1], .bool false]) (by simp [results, Try.results48, go_sem, *]) rfl ⟨rfl, ?_⟩
      exact hB.drew
    · go_wp2
      go_region_held3 (fun w' => w'.cell? ⟨w.heap.size + 1 + 1, 0, none⟩ = some (.int .i64 x0) ∧ w'.cell? ⟨w.heap.size + 1 + 1, 1, none⟩ = some (.int .i64 x1) ∧ w'.cell? ⟨w.heap.size + 1 + 1 + 1, 0, none⟩ = some (.int .i64 y0) ∧ w'.cell? ⟨w.heap.size + 1 + 1 + 1, 1, none⟩ = some (.int .i64 y1))
        (first | go_keep)
        ((fail))
      go_wp2
      refine bodyPost_ret (v := .tuple #[.agg #[.int .i64 x0, .int .i64 x1], .agg #[.int .i64 y0, .int .i64 y1], .bool r2]) (by simp [results, Try.results48, go_sem, *]) rfl ⟨rfl, ?_⟩
      exact hB.drew

end Go.Proofs.Ytomjcpgjlhencaa
