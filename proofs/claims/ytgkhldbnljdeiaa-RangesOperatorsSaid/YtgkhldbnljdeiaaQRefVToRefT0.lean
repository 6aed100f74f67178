/- RefV, RefT0. -/
import Derived.Test.YtgkhldbnljdeiaaQRefQToRefS
import Derived.Deep.RegionHeld3
import Derived.Deep.RegionWith
set_option maxRecDepth 100000
set_option maxHeartbeats 2000000
set_option linter.unusedSimpArgs false
set_option linter.unusedVariables false
namespace Go.Proofs.Ytgkhldbnljdeiaa
open Go.RowKit
attribute [local go_sem] World.setCell_self
/-- The variables of moved: both ranges, the result and x, each of five cells. -/
structure MoveIn (w wx : World) (a b c d x y : Int) (s : Bool) (u : Bool) : Prop where
 a0 : wx.cell? ⟨w.heap.size, 0, none⟩ = some (.int .i64 a)
 a1 : wx.cell? ⟨w.heap.size, 1, none⟩ = some (.int .i64 b)
 b0 : wx.cell? ⟨w.heap.size + 1, 0, none⟩ = some (.int .i64 c)
 b1 : wx.cell? ⟨w.heap.size + 1, 1, none⟩ = some (.int .i64 d)
 r0 : wx.cell? ⟨w.heap.size + 1 + 1, 0, none⟩ = some (.int .i64 0)
 r1 : wx.cell? ⟨w.heap.size + 1 + 1, 1, none⟩ = some (.int .i64 0)
 r2 : wx.cell? ⟨w.heap.size + 1 + 1, 2, none⟩ = some (.bool false)
 r3 : wx.cell? ⟨w.heap.size + 1 + 1, 3, none⟩ = some (.bool false)
 r4 : wx.cell? ⟨w.heap.size + 1 + 1, 4, none⟩ = some (.bool false)
 x0 : wx.cell? ⟨w.heap.size + 1 + 1 + 1, 0, none⟩ = some (.int .i64 x)
 x1 : wx.cell? ⟨w.heap.size + 1 + 1 + 1, 1, none⟩ = some (.int .i64 y)
 x2 : wx.cell? ⟨w.heap.size + 1 + 1 + 1, 2, none⟩ = some (.bool s)
 x3 : wx.cell? ⟨w.heap.size + 1 + 1 + 1, 3, none⟩ = some (.bool false)
 x4 : wx.cell? ⟨w.heap.size + 1 + 1 + 1, 4, none⟩ = some (.bool u)
 fr0 : wx.frozen? ⟨w.heap.size + 1 + 1, 0, none⟩ = false
 fr1 : wx.frozen? ⟨w.heap.size + 1 + 1, 1, none⟩ = false
 fr2 : wx.frozen? ⟨w.heap.size + 1 + 1, 2, none⟩ = false
 fr3 : wx.frozen? ⟨w.heap.size + 1 + 1, 3, none⟩ = false
 fr4 : wx.frozen? ⟨w.heap.size + 1 + 1, 4, none⟩ = false
 fx0 : wx.frozen? ⟨w.heap.size + 1 + 1 + 1, 0, none⟩ = false
 fx1 : wx.frozen? ⟨w.heap.size + 1 + 1 + 1, 1, none⟩ = false
 fx2 : wx.frozen? ⟨w.heap.size + 1 + 1 + 1, 2, none⟩ = false
 s0 : w.heap.size < wx.heap.size
 s1 : w.heap.size + 1 < wx.heap.size
 s2 : w.heap.size + 1 + 1 < wx.heap.size
 s3 : w.heap.size + 1 + 1 + 1 < wx.heap.size
 bl : Below w.heap.size w wx
theorem MoveIn.later {w wx wy : World} {a b c d x y : Int} {s u : Bool} (h : MoveIn w wx a b c d x y s u) (hb : Below wx.heap.size wx wy) : MoveIn w wy a b c d x y s u :=
 ⟨cell_later hb h.a0, cell_later hb h.a1, cell_later hb h.b0, cell_later hb h.b1, cell_later hb h.r0, cell_later hb h.r1, cell_later hb h.r2, cell_later hb h.r3, cell_later hb h.r4, cell_later hb h.x0, cell_later hb h.x1, cell_later hb h.x2, cell_later hb h.x3, cell_later hb h.x4,
  keepFr hb h.s2 h.fr0, keepFr hb h.s2 h.fr1, keepFr hb h.s2 h.fr2, keepFr hb h.s2 h.fr3, keepFr hb h.s2 h.fr4, keepFr hb h.s3 h.fx0, keepFr hb h.s3 h.fx1, keepFr hb h.s3 h.fx2,
  Nat.lt_of_lt_of_le h.s0 hb.size, Nat.lt_of_lt_of_le h.s1 hb.size, Nat.lt_of_lt_of_le h.s2 hb.size, Nat.lt_of_lt_of_le h.s3 hb.size, h.bl.trans (hb.mono (Nat.le_of_lt h.s0))⟩
theorem moveIn (w : World) (a b c d : Int) (u : Bool) (T : Nat) : MoveIn w ((((w.alloc (.cells #[.int .i64 a, .int .i64 b] 23)).alloc (.cells #[.int .i64 c, .int .i64 d] 23)).alloc (.cells #[.int .i64 0, .int .i64 0, .bool false, .bool false, .bool false] T)).alloc (.cells #[.int .i64 0, .int .i64 0, .bool false, .bool false, .bool u] T)) a b c d 0 0 false u :=
 ⟨by go_simp, by go_simp, by go_simp, by go_simp, by go_simp, by go_simp, by go_simp, by go_simp, by go_simp, by go_simp, by go_simp, by go_simp, by go_simp, by go_simp, by go_simp, by go_simp, by go_simp, by go_simp, by go_simp, by go_simp, by go_simp, by go_simp, by (simp; try omega), by (simp; try omega), by (simp; try omega), by (simp; try omega), ((((Below.refl _ _).alloc (Nat.le_refl _) _).alloc (by simp) _).alloc (by simp; omega) _).alloc (by simp; omega) _⟩
theorem MoveIn.some {w wx : World} {a b c d x y : Int} {s u : Bool} (h : MoveIn w wx a b c d x y s u) : MoveIn w (wx.setCell ⟨w.heap.size + 1 + 1 + 1, 2, none⟩ (.bool true)) a b c d x y true u := by
 obtain ⟨a0, a1, b0, b1, r0, r1, r2, r3, r4, x0, x1, x2, x3, x4, fr0, fr1, fr2, fr3, fr4, fx0, fx1, fx2, s0, s1, s2, s3, bl⟩ := h
 exact ⟨by go_simp, by go_simp, by go_simp, by go_simp, by go_simp, by go_simp, by go_simp, by go_simp, by go_simp, by go_simp, by go_simp, by go_simp, by go_simp, by go_simp, by go_simp, by go_simp, by go_simp, by go_simp, by go_simp, by go_simp, by go_simp, by go_simp, by simpa [World.setCell] using s0, by simpa [World.setCell] using s1, by simpa [World.setCell] using s2, by simpa [World.setCell] using s3, bl.setCell (by simp; omega) _⟩
theorem moved_none (op k a b c d top : Int) (u : Bool) (w : World) (hk : ((k == 2) = true ∧ top = 7) ∨ ((k == 2) = false ∧ top = 63)) (hu : (decide (c < 0) = true ∧ u = true) ∨ (decide (c < 0) = false ∧ decide (top < d) = u))
   (hM : ∀ w, Hid (Calls Try.prog 18 #[.agg #[.int .i64 c, .int .i64 d], .agg #[.int .i64 0, .int .i64 top]] w fun e w' => e = .returned (.tuple #[.agg #[.int .i64 0, .int .i64 0], .bool false, .int .i64 0]) ∧ Below w.heap.size w w')) :
   Calls Try.prog 39 #[.int .i64 op, .int .i64 k, .agg #[.int .i64 a, .int .i64 b], .agg #[.int .i64 c, .int .i64 d]] w fun e w' => e = .returned (.agg #[.int .i64 0, .int .i64 0, .bool false, .bool false, .bool u]) ∧ Below w.heap.size w w' := by
 rcases hk with ⟨hk, rfl⟩ | ⟨hk, rfl⟩ <;> rcases hu with ⟨hc, rfl⟩ | ⟨hc, hu⟩
 all_goals
   go_enter Try.func39, Try.ntmps39
   go_wp2_with fail
   refine (hM _).out.mono ?_
   rintro e w1 ⟨rfl, hB⟩
   obtain ⟨a0, a1, b0, b1, r0, r1, r2, r3, r4, x0, x1, x2, x3, x4, fr0, fr1, fr2, fr3, fr4, fx0, fx1, fx2, s0, s1, s2, s3, bl⟩ := (moveIn w a b c d _ _).later hB
   clear hB
   go_wp2
   refine bodyPost_ret (v := .agg #[.int .i64 0, .int .i64 0, .bool false, .bool false, .bool _]) (by simp [results, Try.results39, go_sem, *]) rfl ⟨rfl, (bl.setCell (by simp; omega) _).alloc (by simp [World.setCell]; omega) _⟩
theorem moved_some (op k a b c d top lo2 hi2 l h x y : Int) (o u : Bool) (w : World) (hk : ((k == 2) = true ∧ top = 7) ∨ ((k == 2) = false ∧ top = 63)) (hu : (decide (c < 0) = true ∧ u = true) ∨ (decide (c < 0) = false ∧ decide (top < d) = u))
   (hM : ∀ w, Hid (Calls Try.prog 18 #[.agg #[.int .i64 c, .int .i64 d], .agg #[.int .i64 0, .int .i64 top]] w fun e w' => e = .returned (.tuple #[.agg #[.int .i64 lo2, .int .i64 hi2], .bool true, .int .i64 0]) ∧ Below w.heap.size w w'))
   (hS : ∀ w, Hid (Calls Try.prog 36 #[.int .i64 op, .agg #[.int .i64 a, .int .i64 b], .agg #[.int .i64 lo2, .int .i64 hi2]] w fun e w' => e = .returned (.agg #[.int .i64 l, .int .i64 h, .bool o]) ∧ Below w.heap.size w w'))
   (hB : ∀ w, Hid (Calls Try.prog 35 #[.agg #[.int .i64 l, .int .i64 h, .bool o], .int .i64 k] w fun e w' => e = .returned (.agg #[.int .i64 x, .int .i64 y]) ∧ Below w.heap.size w w')) :
   Calls Try.prog 39 #[.int .i64 op, .int .i64 k, .agg #[.int .i64 a, .int .i64 b], .agg #[.int .i64 c, .int .i64 d]] w fun e w' => e = .returned (.agg #[.int .i64 x, .int .i64 y, .bool true, .bool false, .bool u]) ∧ Below w.heap.size w w' := by
 rcases hk with ⟨hk, rfl⟩ | ⟨hk, rfl⟩ <;> rcases hu with ⟨hc, rfl⟩ | ⟨hc, hu⟩
 all_goals
   go_enter Try.func39, Try.ntmps39
   go_wp2_with fail
   refine (hM _).out.mono ?_
   rintro e w1 ⟨rfl, hB1⟩
   have J := Lib.hid ((moveIn w a b c d _ _).later hB1).some
   obtain ⟨a0, a1, b0, b1, r0, r1, r2, r3, r4, x0, x1, x2, x3, x4, fr0, fr1, fr2, fr3, fr4, fx0, fx1, fx2, s0, s1, s2, s3, bl⟩ := (moveIn w a b c d _ _).later hB1
   clear hB1
   go_wp2_with fail
   refine (hS _).out.mono ?_
   clear a0 a1 b0 b1 r0 r1 r2 r3 r4 x0 x1 x2 x3 x4 fr0 fr1 fr2 fr3 fr4 fx0 fx1 fx2 s0 s1 s2 s3 bl
   rintro e w2 ⟨rfl, hB2⟩
   have I2 := J.out.later (((Below.refl _ _).alloc (Nat.le_refl _) _).trans (hB2.mono (by simp)))
   clear hB2 J
   have J2 := Lib.hid I2
   obtain ⟨a0, a1, b0, b1, r0, r1, r2, r3, r4, x0, x1, x2, x3, x4, fr0, fr1, fr2, fr3, fr4, fx0, fx1, fx2, s0, s1, s2, s3, bl⟩ := I2
   go_wp2_with fail
   refine (hB _).out.mono ?_
   clear a0 a1 b0 b1 r0 r1 r2 r3 r4 x0 x1 x2 x3 x4 fr0 fr1 fr2 fr3 fr4 fx0 fx1 fx2 s0 s1 s2 s3 bl
   rintro e w3 ⟨rfl, hB3⟩
   obtain ⟨a0, a1, b0, b1, r0, r1, r2, r3, r4, x0, x1, x2, x3, x4, fr0, fr1, fr2, fr3, fr4, fx0, fx1, fx2, s0, s1, s2, s3, bl⟩ := J2.out.later hB3
   clear hB3 J2
   go_wp2
   refine bodyPost_ret (v := .agg #[.int .i64 x, .int .i64 y, .bool true, .bool false, .bool _]) (by simp [results, Try.results39, go_sem, *]) rfl ⟨rfl, (((((bl.setCell (by simp; omega) _).setCell (by simp; omega) _).setCell (by simp; omega) _).setCell (by simp; omega) _).setCell (by simp; omega) _).setCell (by simp; omega) _⟩
end Go.Proofs.Ytgkhldbnljdeiaa
namespace Go.Proofs.Ytgkhldbnljdeiaa
open Go.RowKit
attribute [local go_sem] World.setCell_self
/-- What a cell holds, whatever it is. -/
def valAt (w : World) (a : Addr) : Value := (w.cell? a).getD (.int .i64 0)
theorem valAt_some {w : World} {a : Addr} (h : (w.cell? a).isSome = true) : w.cell? a = some (valAt w a) := by
 unfold valAt
 obtain ⟨v, hv⟩ := Option.isSome_iff_exists.1 h
 rw [hv]; rfl
/-- As TwoIn, whatever the result's range holds. -/
structure TwoAny (w wx : World) (a b c d : Int) : Prop where
 a0 : wx.cell? ⟨w.heap.size, 0, none⟩ = some (.int .i64 a)
 a1 : wx.cell? ⟨w.heap.size, 1, none⟩ = some (.int .i64 b)
 b0 : wx.cell? ⟨w.heap.size + 1, 0, none⟩ = some (.int .i64 c)
 b1 : wx.cell? ⟨w.heap.size + 1, 1, none⟩ = some (.int .i64 d)
 e0 : (wx.cell? ⟨w.heap.size + 1 + 1, 0, none⟩).isSome = true
 e1 : (wx.cell? ⟨w.heap.size + 1 + 1, 1, none⟩).isSome = true
 f0 : wx.frozen? ⟨w.heap.size + 1 + 1, 0, none⟩ = false
 f1 : wx.frozen? ⟨w.heap.size + 1 + 1, 1, none⟩ = false
 s2 : w.heap.size + 1 + 1 < wx.heap.size
 bl : Below w.heap.size w wx
theorem some_later {w wx : World} {a : Addr} (hb : Below w.heap.size w wx) (h : (w.cell? a).isSome = true) : (wx.cell? a).isSome = true := by
 obtain ⟨v, hv⟩ := Option.isSome_iff_exists.1 h
 rw [cell_later hb hv]; rfl
theorem TwoAny.later {w wx wy : World} {a b c d : Int} (h : TwoAny w wx a b c d) (hb : Below wx.heap.size wx wy) : TwoAny w wy a b c d :=
 ⟨cell_later hb h.a0, cell_later hb h.a1, cell_later hb h.b0, cell_later hb h.b1, some_later hb h.e0, some_later hb h.e1, keepFr hb h.s2 h.f0, keepFr hb h.s2 h.f1, Nat.lt_of_lt_of_le h.s2 hb.size, h.bl.trans (hb.mono (by have := h.s2; omega))⟩
theorem TwoIn.any {w wx : World} {a b c d : Int} (h : TwoIn w wx a b c d) : TwoAny w wx a b c d := ⟨h.a0, h.a1, h.b0, h.b1, by rw [h.r0]; rfl, by rw [h.r1]; rfl, h.f0, h.f1, h.s2, h.bl⟩
theorem TwoAny.set {w wx : World} {a b c d : Int} (h : TwoAny w wx a b c d) (x y : Int) : TwoAny w ((wx.setCell ⟨w.heap.size + 1 + 1, 0, none⟩ (.int .i64 x)).setCell ⟨w.heap.size + 1 + 1, 1, none⟩ (.int .i64 y)) a b c d := by
 obtain ⟨a0, a1, b0, b1, e0, e1, f0, f1, s2, bl⟩ := h
 have e0 := valAt_some e0
 have e1 := valAt_some e1
 generalize valAt wx ⟨w.heap.size + 1 + 1, 0, none⟩ = z0 at *
 generalize valAt wx ⟨w.heap.size + 1 + 1, 1, none⟩ = z1 at *
 exact ⟨by go_simp, by go_simp, by go_simp, by go_simp, by go_simp, by go_simp, by go_simp, by go_simp, by simpa [World.setCell] using s2, (bl.setCell (by simp; omega) _).setCell (by simp; omega) _⟩
/-- The limbs that the walk names. -/
theorem TwoAny.limbs {w wx : World} {a b c d : Int} (h : TwoAny w wx a b c d) : wx.cell? ⟨w.heap.size, 0, none⟩ = some (.int .i64 a) ∧ wx.cell? ⟨w.heap.size, 1, none⟩ = some (.int .i64 b) ∧ wx.cell? ⟨w.heap.size + 1, 0, none⟩ = some (.int .i64 c) ∧ wx.cell? ⟨w.heap.size + 1, 1, none⟩ = some (.int .i64 d) ∧ wx.cell? ⟨w.heap.size + 1 + 1, 0, none⟩ = some (valAt wx ⟨w.heap.size + 1 + 1, 0, none⟩) ∧ wx.cell? ⟨w.heap.size + 1 + 1, 1, none⟩ = some (valAt wx ⟨w.heap.size + 1 + 1, 1, none⟩) ∧ wx.frozen? ⟨w.heap.size + 1 + 1, 0, none⟩ = false ∧ wx.frozen? ⟨w.heap.size + 1 + 1, 1, none⟩ = false ∧ TwoAny w wx a b c d :=
 ⟨h.a0, h.a1, h.b0, h.b1, valAt_some h.e0, valAt_some h.e1, h.f0, h.f1, h⟩
end Go.Proofs.Ytgkhldbnljdeiaa
