/- The variables of the reference function corners of layer 4, and what a step does to them. -/
import Derived.RegionTactic
import Derived.BigRegion
import Derived.Deep.RegionHeld3
import Derived.Deep.DeepCutAuto
import Derived.Test.YtomjcpgjlhencaaKLawDone3ToLawAssume
set_option linter.unusedSimpArgs false
set_option linter.unusedVariables false
namespace Go.Proofs.Ytomjcpgjlhencaa
open Go.RowKit

/-- The variables of corners: the two arrays, the span, the result. -/
structure CornIn (w wx : World) (a b c d : Int) (p q : Nat) (u v : Int) (o : Bool) : Prop where
  a0 : wx.cell? ⟨p, 0, none⟩ = some (.int .i64 a)
  a1 : wx.cell? ⟨p, 1, none⟩ = some (.int .i64 b)
  b0 : wx.cell? ⟨q, 0, none⟩ = some (.int .i64 c)
  b1 : wx.cell? ⟨q, 1, none⟩ = some (.int .i64 d)
  u0 : wx.cell? ⟨w.heap.size + 1 + 1 + 1, 0, none⟩ = some (.int .i64 u)
  u1 : wx.cell? ⟨w.heap.size + 1 + 1 + 1, 1, none⟩ = some (.int .i64 v)
  u2 : wx.cell? ⟨w.heap.size + 1 + 1 + 1, 2, none⟩ = some (.bool o)
  r0 : wx.cell? ⟨w.heap.size + 1 + 1, 0, none⟩ = some (.int .i64 0)
  r1 : wx.cell? ⟨w.heap.size + 1 + 1, 1, none⟩ = some (.int .i64 0)
  r2 : wx.cell? ⟨w.heap.size + 1 + 1, 2, none⟩ = some (.bool false)
  fu0 : wx.frozen? ⟨w.heap.size + 1 + 1 + 1, 0, none⟩ = false
  fu1 : wx.frozen? ⟨w.heap.size + 1 + 1 + 1, 1, none⟩ = false
  fu2 : wx.frozen? ⟨w.heap.size + 1 + 1 + 1, 2, none⟩ = false
  fr0 : wx.frozen? ⟨w.heap.size + 1 + 1, 0, none⟩ = false
  fr1 : wx.frozen? ⟨w.heap.size + 1 + 1, 1, none⟩ = false
  fr2 : wx.frozen? ⟨w.heap.size + 1 + 1, 2, none⟩ = false
  sz : w.heap.size + 1 + 1 + 1 < wx.heap.size
  np : w.heap.size + 1 + 1 + 1 < p
  nq : w.heap.size + 1 + 1 + 1 < q
  sp : p < wx.heap.size
  sq : q < wx.heap.size
  bl : Below w.heap.size w wx

theorem keepFr {w wx : World} {b : Nat} {i : Nat} (hb : Below w.heap.size w wx) (hl : b < w.heap.size) (h : w.frozen? ⟨b, i, none⟩ = false) : wx.frozen? ⟨b, i, none⟩ = false := by
  rw [hb.frozen (p := ⟨b, i, none⟩) hl]; exact h

theorem CornIn.later {w wx wy : World} {a b c d : Int} {p q : Nat} {u v : Int} {o : Bool} (h : CornIn w wx a b c d p q u v o) (hb : Below wx.heap.size wx wy) : CornIn w wy a b c d p q u v o :=
  ⟨cell_later hb h.a0, cell_later hb h.a1, cell_later hb h.b0, cell_later hb h.b1, cell_later hb h.u0, cell_later hb h.u1, cell_later hb h.u2, cell_later hb h.r0, cell_later hb h.r1, cell_later hb h.r2,
   keepFr hb h.sz h.fu0, keepFr hb h.sz h.fu1, keepFr hb h.sz h.fu2, keepFr hb (by have := h.sz; omega) h.fr0, keepFr hb (by have := h.sz; omega) h.fr1, keepFr hb (by have := h.sz; omega) h.fr2,
   Nat.lt_of_lt_of_le h.sz hb.size, h.np, h.nq, Nat.lt_of_lt_of_le h.sp hb.size, Nat.lt_of_lt_of_le h.sq hb.size, h.bl.trans (hb.mono (by have := h.sz; omega))⟩

theorem CornIn.set {w wx : World} {a b c d : Int} {p q : Nat} {u v : Int} {o : Bool} (h : CornIn w wx a b c d p q u v o) (u' v' : Int) (o' : Bool) : CornIn w (((wx.setCell ⟨w.heap.size + 1 + 1 + 1, 0, none⟩ (.int .i64 u')).setCell ⟨w.heap.size + 1 + 1 + 1, 1, none⟩ (.int .i64 v')).setCell ⟨w.heap.size + 1 + 1 + 1, 2, none⟩ (.bool o')) a b c d p q u' v' o' := by
  obtain ⟨a0, a1, b0, b1, u0, u1, u2, r0, r1, r2, fu0, fu1, fu2, fr0, fr1, fr2, sz, np, nq, sp, sq, bl⟩ := h
  have n1 : p ≠ w.heap.size + 1 + 1 + 1 := by omega
  have n2 : q ≠ w.heap.size + 1 + 1 + 1 := by omega
  have n1' : w.heap.size + 1 + 1 + 1 ≠ p := by omega
  have n2' : w.heap.size + 1 + 1 + 1 ≠ q := by omega
  refine ⟨?_, ?_, ?_, ?_, by go_simp, by go_simp, by go_simp, by go_simp, by go_simp, by go_simp, by go_simp, by go_simp, by go_simp, by go_simp, by go_simp, by go_simp, by simpa [World.setCell] using sz, np, nq, by simpa [World.setCell] using sp, by simpa [World.setCell] using sq, ((bl.setCell (by simp; omega) _).setCell (by simp; omega) _).setCell (by simp; omega) _⟩
  · rw [World.cell?_setCell_far _ _ _ _ (by simpa using n1'), World.cell?_setCell_far _ _ _ _ (by simpa using n1'), World.cell?_setCell_far _ _ _ _ (by simpa using n1')]; exact a0
  · rw [World.cell?_setCell_far _ _ _ _ (by simpa using n1'), World.cell?_setCell_far _ _ _ _ (by simpa using n1'), World.cell?_setCell_far _ _ _ _ (by simpa using n1')]; exact a1
  · rw [World.cell?_setCell_far _ _ _ _ (by simpa using n2'), World.cell?_setCell_far _ _ _ _ (by simpa using n2'), World.cell?_setCell_far _ _ _ _ (by simpa using n2')]; exact b0
  · rw [World.cell?_setCell_far _ _ _ _ (by simpa using n2'), World.cell?_setCell_far _ _ _ _ (by simpa using n2'), World.cell?_setCell_far _ _ _ _ (by simpa using n2')]; exact b1

end Go.Proofs.Ytomjcpgjlhencaa
