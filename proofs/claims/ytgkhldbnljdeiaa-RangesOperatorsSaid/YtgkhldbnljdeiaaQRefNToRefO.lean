/- RefN, RefO. -/
import Derived.Test.YtgkhldbnljdeiaaQRefLToRangesB
import Derived.Test.YtgkhldbnljdeiaaQShownToLawSets
import Derived.RegionTactic
import Derived.BigRegion
import Derived.Deep.RegionHeld3
import Derived.Deep.DeepCutAuto
set_option maxHeartbeats 1000000
set_option linter.unusedSimpArgs false
set_option linter.unusedVariables false
namespace Go.Proofs.Ytgkhldbnljdeiaa
open Go.RowKit
/-- The lowest eight bits of a number, as the program computes them. -/
def low8 (x : Int) : Int := bits .and .i64 x 255
theorem add_first (lo hi n : Int) (o p : Bool) (w : World) :
   Calls Try.prog 57 #[.agg #[.int .i64 lo, .int .i64 hi, .bool o], .int .i64 n, .bool p, .bool true] w fun e w' => e = .returned (.agg #[.int .i64 n, .int .i64 n, .bool p]) ∧ Below w.heap.size w w' := by
 go_enter Try.func57, Try.ntmps57
 go_wp2
 refine bodyPost_ret (v := .agg #[.int .i64 n, .int .i64 n, .bool p]) (by simp [results, Try.results57, go_sem]) rfl ⟨rfl, ?_⟩
 exact ((Below.refl _ _).alloc (Nat.le_refl _) _).alloc (by simp) _
theorem add_more (lo hi n : Int) (o p : Bool) (w : World) :
   Calls Try.prog 57 #[.agg #[.int .i64 lo, .int .i64 hi, .bool o], .int .i64 n, .bool p, .bool false] w fun e w' => e = .returned (.agg #[.int .i64 (min lo n), .int .i64 (max hi n), .bool (o || p)]) ∧ Below w.heap.size w w' := by
 cases o
 all_goals
   go_enter Try.func57, Try.ntmps57
   go_wp2
   all_goals
     refine bodyPost_ret (v := .agg #[.int .i64 (min lo n), .int .i64 (max hi n), .bool _]) (by simp [results, Try.results57, go_sem]; omega) rfl ⟨rfl, ?_⟩
     exact ((Below.refl _ _).alloc (Nat.le_refl _) _).alloc (by simp) _
theorem brought_over (lo hi k : Int) (w : World) :
   Calls Try.prog 35 #[.agg #[.int .i64 lo, .int .i64 hi, .bool true], .int .i64 k] w fun e w' => e = .returned (.agg #[.int .i64 (fullLow k), .int .i64 (fullHigh k)]) ∧ Below w.heap.size w w' := by
 have F := fun w => Lib.hid (full_any k w)
 generalize fullLow k = fl at *
 generalize fullHigh k = fh at *
 go_enter Try.func35, Try.ntmps35
 go_wp2_with fail
 refine (F _).out.mono ?_
 rintro e w1 ⟨rfl, hB⟩
 have z1 : w.heap.size + 1 < w1.heap.size := by have := hB.size; simp at this; omega
 have z0 : w.heap.size < w1.heap.size := by omega
 have hT : Below w.heap.size w w1 := (((Below.refl _ _).alloc (Nat.le_refl _) _).alloc (by simp) _).trans (hB.mono (by simp; omega))
 have a0 : w1.cell? ⟨w.heap.size, 0, none⟩ = some (.int .i64 lo) := cell_later hB (by go_simp)
 have a1 : w1.cell? ⟨w.heap.size, 1, none⟩ = some (.int .i64 hi) := cell_later hB (by go_simp)
 have a2 : w1.cell? ⟨w.heap.size, 2, none⟩ = some (.bool true) := cell_later hB (by go_simp)
 have r0 : w1.cell? ⟨w.heap.size + 1, 0, none⟩ = some (.int .i64 0) := cell_later hB (by go_simp)
 have r1 : w1.cell? ⟨w.heap.size + 1, 1, none⟩ = some (.int .i64 0) := cell_later hB (by go_simp)
 have f0 : w1.frozen? ⟨w.heap.size + 1, 0, none⟩ = false := by rw [hB.frozen (p := ⟨w.heap.size + 1, 0, none⟩) (by simp)]; go_simp
 have f1 : w1.frozen? ⟨w.heap.size + 1, 1, none⟩ = false := by rw [hB.frozen (p := ⟨w.heap.size + 1, 1, none⟩) (by simp)]; go_simp
 clear hB
 go_wp2
 refine bodyPost_ret (v := .agg #[.int .i64 fl, .int .i64 fh]) (by simp [results, Try.results35, go_sem, *]) rfl ⟨rfl, ?_⟩
 exact ((hT.setCell (by simp) _).setCell (by simp) _).alloc (by simp [World.setCell]; omega) _
theorem brought_int (lo hi k : Int) (hk : (k == 1) = true) (w : World) :
   Calls Try.prog 35 #[.agg #[.int .i64 lo, .int .i64 hi, .bool false], .int .i64 k] w fun e w' => e = .returned (.agg #[.int .i64 lo, .int .i64 hi]) ∧ Below w.heap.size w w' := by
 have F := fun w => Lib.hid (full_any k w)
 generalize fullLow k = fl at *
 generalize fullHigh k = fh at *
 go_enter Try.func35, Try.ntmps35
 go_wp2_with fail
 refine (F _).out.mono ?_
 rintro e w1 ⟨rfl, hB⟩
 have z1 : w.heap.size + 1 < w1.heap.size := by have := hB.size; simp at this; omega
 have z0 : w.heap.size < w1.heap.size := by omega
 have hT : Below w.heap.size w w1 := (((Below.refl _ _).alloc (Nat.le_refl _) _).alloc (by simp) _).trans (hB.mono (by simp; omega))
 have a0 : w1.cell? ⟨w.heap.size, 0, none⟩ = some (.int .i64 lo) := cell_later hB (by go_simp)
 have a1 : w1.cell? ⟨w.heap.size, 1, none⟩ = some (.int .i64 hi) := cell_later hB (by go_simp)
 have a2 : w1.cell? ⟨w.heap.size, 2, none⟩ = some (.bool false) := cell_later hB (by go_simp)
 have r0 : w1.cell? ⟨w.heap.size + 1, 0, none⟩ = some (.int .i64 0) := cell_later hB (by go_simp)
 have r1 : w1.cell? ⟨w.heap.size + 1, 1, none⟩ = some (.int .i64 0) := cell_later hB (by go_simp)
 have f0 : w1.frozen? ⟨w.heap.size + 1, 0, none⟩ = false := by rw [hB.frozen (p := ⟨w.heap.size + 1, 0, none⟩) (by simp)]; go_simp
 have f1 : w1.frozen? ⟨w.heap.size + 1, 1, none⟩ = false := by rw [hB.frozen (p := ⟨w.heap.size + 1, 1, none⟩) (by simp)]; go_simp
 clear hB
 go_wp2
 refine bodyPost_ret (v := .agg #[.int .i64 lo, .int .i64 hi]) (by simp [results, Try.results35, go_sem, *]) rfl ⟨rfl, ?_⟩
 exact ((hT.setCell (by simp) _).setCell (by simp) _).alloc (by simp [World.setCell]; omega) _
theorem brought_wide (lo hi k : Int) (hk : (k == 1) = false) (hne : (lo / 256 != hi / 256) = true) (w : World) :
   Calls Try.prog 35 #[.agg #[.int .i64 lo, .int .i64 hi, .bool false], .int .i64 k] w fun e w' => e = .returned (.agg #[.int .i64 (fullLow k), .int .i64 (fullHigh k)]) ∧ Below w.heap.size w w' := by
 have F := fun w => Lib.hid (full_any k w)
 generalize fullLow k = fl at *
 generalize fullHigh k = fh at *
 go_enter Try.func35, Try.ntmps35
 go_wp2_with fail
 refine (F _).out.mono ?_
 rintro e w1 ⟨rfl, hB⟩
 have z1 : w.heap.size + 1 < w1.heap.size := by have := hB.size; simp at this; omega
 have z0 : w.heap.size < w1.heap.size := by omega
 have hT : Below w.heap.size w w1 := (((Below.refl _ _).alloc (Nat.le_refl _) _).alloc (by simp) _).trans (hB.mono (by simp; omega))
 have a0 : w1.cell? ⟨w.heap.size, 0, none⟩ = some (.int .i64 lo) := cell_later hB (by go_simp)
 have a1 : w1.cell? ⟨w.heap.size, 1, none⟩ = some (.int .i64 hi) := cell_later hB (by go_simp)
 have a2 : w1.cell? ⟨w.heap.size, 2, none⟩ = some (.bool false) := cell_later hB (by go_simp)
 have r0 : w1.cell? ⟨w.heap.size + 1, 0, none⟩ = some (.int .i64 0) := cell_later hB (by go_simp)
 have r1 : w1.cell? ⟨w.heap.size + 1, 1, none⟩ = some (.int .i64 0) := cell_later hB (by go_simp)
 have f0 : w1.frozen? ⟨w.heap.size + 1, 0, none⟩ = false := by rw [hB.frozen (p := ⟨w.heap.size + 1, 0, none⟩) (by simp)]; go_simp
 have f1 : w1.frozen? ⟨w.heap.size + 1, 1, none⟩ = false := by rw [hB.frozen (p := ⟨w.heap.size + 1, 1, none⟩) (by simp)]; go_simp
 clear hB
 go_wp2
 refine bodyPost_ret (v := .agg #[.int .i64 fl, .int .i64 fh]) (by simp [results, Try.results35, go_sem, *]) rfl ⟨rfl, ?_⟩
 exact ((hT.setCell (by simp) _).setCell (by simp) _).alloc (by simp [World.setCell]; omega) _
theorem brought_small (lo hi k : Int) (hk : (k == 1) = false) (hne : (lo / 256 != hi / 256) = false) (w : World) :
   Calls Try.prog 35 #[.agg #[.int .i64 lo, .int .i64 hi, .bool false], .int .i64 k] w fun e w' => e = .returned (.agg #[.int .i64 (low8 lo), .int .i64 (low8 hi)]) ∧ Below w.heap.size w w' := by
 have F := fun w => Lib.hid (full_any k w)
 generalize fullLow k = fl at *
 generalize fullHigh k = fh at *
 go_enter Try.func35, Try.ntmps35
 go_wp2_with fail
 refine (F _).out.mono ?_
 rintro e w1 ⟨rfl, hB⟩
 have z1 : w.heap.size + 1 < w1.heap.size := by have := hB.size; simp at this; omega
 have z0 : w.heap.size < w1.heap.size := by omega
 have hT : Below w.heap.size w w1 := (((Below.refl _ _).alloc (Nat.le_refl _) _).alloc (by simp) _).trans (hB.mono (by simp; omega))
 have a0 : w1.cell? ⟨w.heap.size, 0, none⟩ = some (.int .i64 lo) := cell_later hB (by go_simp)
 have a1 : w1.cell? ⟨w.heap.size, 1, none⟩ = some (.int .i64 hi) := cell_later hB (by go_simp)
 have a2 : w1.cell? ⟨w.heap.size, 2, none⟩ = some (.bool false) := cell_later hB (by go_simp)
 have r0 : w1.cell? ⟨w.heap.size + 1, 0, none⟩ = some (.int .i64 0) := cell_later hB (by go_simp)
 have r1 : w1.cell? ⟨w.heap.size + 1, 1, none⟩ = some (.int .i64 0) := cell_later hB (by go_simp)
 have f0 : w1.frozen? ⟨w.heap.size + 1, 0, none⟩ = false := by rw [hB.frozen (p := ⟨w.heap.size + 1, 0, none⟩) (by simp)]; go_simp
 have f1 : w1.frozen? ⟨w.heap.size + 1, 1, none⟩ = false := by rw [hB.frozen (p := ⟨w.heap.size + 1, 1, none⟩) (by simp)]; go_simp
 clear hB
 go_wp2
 refine bodyPost_ret (v := .agg #[.int .i64 (low8 lo), .int .i64 (low8 hi)]) (by simp [results, Try.results35, go_sem, low8, *]) rfl ⟨rfl, ?_⟩
 exact ((hT.setCell (by simp) _).setCell (by simp) _).alloc (by simp [World.setCell]; omega) _
def broughtS (lo hi : Int) (o : Bool) (k : Int) : Int × Int :=
 if o then (fullLow k, fullHigh k) else if k = 1 then (lo, hi) else if lo / 256 = hi / 256 then (low8 lo, low8 hi) else (fullLow k, fullHigh k)
theorem brought_any (lo hi k : Int) (o : Bool) (w : World) :
   Calls Try.prog 35 #[.agg #[.int .i64 lo, .int .i64 hi, .bool o], .int .i64 k] w fun e w' => e = .returned (.agg #[.int .i64 (broughtS lo hi o k).1, .int .i64 (broughtS lo hi o k).2]) ∧ Below w.heap.size w w' := by
 unfold broughtS
 cases o
 · by_cases hk : k = 1
   · subst hk; exact brought_int lo hi 1 rfl w
   · by_cases he : lo / 256 = hi / 256
     · rw [if_neg (by simp), if_neg hk, if_pos he]
       exact brought_small lo hi k (by simpa using hk) (by simpa using he) w
     · rw [if_neg (by simp), if_neg hk, if_neg he]
       exact brought_wide lo hi k (by simpa using hk) (by simpa using he) w
 · exact brought_over lo hi k w
end Go.Proofs.Ytgkhldbnljdeiaa
namespace Go.Proofs.Ytgkhldbnljdeiaa
open Go.RowKit
/-- The variables of corners: the two arrays, the span, the result. -/
structure CornIn (w wx : World) (a b c d : Int) (p q : Nat) (u v : Int) (o : Bool) : Prop where
 a0 : wx.cell? ⟨p, 0, none⟩ = some (.int .i64 a)
 a1 : wx.cell? ⟨p, 1, none⟩ = some (.int .i64 b)
 b0 : wx.cell? ⟨q, 0, none⟩ = some (.int .i64 c)
 b1 : wx.cell? ⟨q, 1, none⟩ = some (.int .i64 d)
 u0 : wx.cell? ⟨w.heap.size + 1 + 1 + 1, 0, none⟩ = some (.int .i64 u)
 u1 : wx.cell? ⟨w.heap.size + 1 + 1 + 1, 1, none⟩ = some (.int .i64 v)
 u2 : wx.cell? ⟨w.heap.size + 1 + 1 + 1, 2, none⟩ = some (.bool o)
 r0 : wx.cell? ⟨w.heap.size + 1 + 1, 0, none⟩ = some (.int .i64 0)
 r1 : wx.cell? ⟨w.heap.size + 1 + 1, 1, none⟩ = some (.int .i64 0)
 r2 : wx.cell? ⟨w.heap.size + 1 + 1, 2, none⟩ = some (.bool false)
 fu0 : wx.frozen? ⟨w.heap.size + 1 + 1 + 1, 0, none⟩ = false
 fu1 : wx.frozen? ⟨w.heap.size + 1 + 1 + 1, 1, none⟩ = false
 fu2 : wx.frozen? ⟨w.heap.size + 1 + 1 + 1, 2, none⟩ = false
 fr0 : wx.frozen? ⟨w.heap.size + 1 + 1, 0, none⟩ = false
 fr1 : wx.frozen? ⟨w.heap.size + 1 + 1, 1, none⟩ = false
 fr2 : wx.frozen? ⟨w.heap.size + 1 + 1, 2, none⟩ = false
 sz : w.heap.size + 1 + 1 + 1 < wx.heap.size
 np : w.heap.size + 1 + 1 + 1 < p
 nq : w.heap.size + 1 + 1 + 1 < q
 sp : p < wx.heap.size
 sq : q < wx.heap.size
 bl : Below w.heap.size w wx
theorem keepFr {w wx : World} {b : Nat} {i : Nat} (hb : Below w.heap.size w wx) (hl : b < w.heap.size) (h : w.frozen? ⟨b, i, none⟩ = false) : wx.frozen? ⟨b, i, none⟩ = false := by
 rw [hb.frozen (p := ⟨b, i, none⟩) hl]; exact h
theorem CornIn.later {w wx wy : World} {a b c d : Int} {p q : Nat} {u v : Int} {o : Bool} (h : CornIn w wx a b c d p q u v o) (hb : Below wx.heap.size wx wy) : CornIn w wy a b c d p q u v o :=
 ⟨cell_later hb h.a0, cell_later hb h.a1, cell_later hb h.b0, cell_later hb h.b1, cell_later hb h.u0, cell_later hb h.u1, cell_later hb h.u2, cell_later hb h.r0, cell_later hb h.r1, cell_later hb h.r2,
  keepFr hb h.sz h.fu0, keepFr hb h.sz h.fu1, keepFr hb h.sz h.fu2, keepFr hb (by have := h.sz; omega) h.fr0, keepFr hb (by have := h.sz; omega) h.fr1, keepFr hb (by have := h.sz; omega) h.fr2,
  Nat.lt_of_lt_of_le h.sz hb.size, h.np, h.nq, Nat.lt_of_lt_of_le h.sp hb.size, Nat.lt_of_lt_of_le h.sq hb.size, h.bl.trans (hb.mono (by have := h.sz; omega))⟩
theorem CornIn.set {w wx : World} {a b c d : Int} {p q : Nat} {u v : Int} {o : Bool} (h : CornIn w wx a b c d p q u v o) (u' v' : Int) (o' : Bool) : CornIn w (((wx.setCell ⟨w.heap.size + 1 + 1 + 1, 0, none⟩ (.int .i64 u')).setCell ⟨w.heap.size + 1 + 1 + 1, 1, none⟩ (.int .i64 v')).setCell ⟨w.heap.size + 1 + 1 + 1, 2, none⟩ (.bool o')) a b c d p q u' v' o' := by
 obtain ⟨a0, a1, b0, b1, u0, u1, u2, r0, r1, r2, fu0, fu1, fu2, fr0, fr1, fr2, sz, np, nq, sp, sq, bl⟩ := h
 have n1 : p ≠ w.heap.size + 1 + 1 + 1 := by omega
 have n2 : q ≠ w.heap.size + 1 + 1 + 1 := by omega
 have n1' : w.heap.size + 1 + 1 + 1 ≠ p := by omega
 have n2' : w.heap.size + 1 + 1 + 1 ≠ q := by omega
 refine ⟨?_, ?_, ?_, ?_, by go_simp, by go_simp, by go_simp, by go_simp, by go_simp, by go_simp, by go_simp, by go_simp, by go_simp, by go_simp, by go_simp, by go_simp, by simpa [World.setCell] using sz, np, nq, by simpa [World.setCell] using sp, by simpa [World.setCell] using sq, ((bl.setCell (by simp; omega) _).setCell (by simp; omega) _).setCell (by simp; omega) _⟩
 · rw [World.cell?_setCell_far _ _ _ _ (by simpa using n1'), World.cell?_setCell_far _ _ _ _ (by simpa using n1'), World.cell?_setCell_far _ _ _ _ (by simpa using n1')]; exact a0
 · rw [World.cell?_setCell_far _ _ _ _ (by simpa using n1'), World.cell?_setCell_far _ _ _ _ (by simpa using n1'), World.cell?_setCell_far _ _ _ _ (by simpa using n1')]; exact a1
 · rw [World.cell?_setCell_far _ _ _ _ (by simpa using n2'), World.cell?_setCell_far _ _ _ _ (by simpa using n2'), World.cell?_setCell_far _ _ _ _ (by simpa using n2')]; exact b0
 · rw [World.cell?_setCell_far _ _ _ _ (by simpa using n2'), World.cell?_setCell_far _ _ _ _ (by simpa using n2'), World.cell?_setCell_far _ _ _ _ (by simpa using n2')]; exact b1
end Go.Proofs.Ytgkhldbnljdeiaa
