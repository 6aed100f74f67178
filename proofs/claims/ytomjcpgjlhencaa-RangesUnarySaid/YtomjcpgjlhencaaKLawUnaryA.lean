/- The variables of the walk of the law RangesUnary, out of the contracts of Unary, ToSmall, Check and of the examples. -/
import Derived.RegionTactic
import Derived.Deep.RegionHeld3
import Derived.Deep.RegionWith
import Derived.Deep.DeepCutAuto
import Derived.Test.YtomjcpgjlhencaaKLawOpsToGlueA
import Derived.Test.YtomjcpgjlhencaaKRefIToRangesD
import Derived.Test.YtomjcpgjlhencaaKRangesEToLawDone
set_option linter.unusedSimpArgs false
set_option linter.unusedVariables false
namespace Go.Proofs.Ytomjcpgjlhencaa
open Go.RowKit

/-- The variables of RangesUnary: the range and the list of operators. -/
structure UnIn (w wx : World) (a b : Int) (m : Nat) : Prop where
  a0 : wx.cell? ⟨w.heap.size, 0, none⟩ = some (.int .i64 a)
  a1 : wx.cell? ⟨w.heap.size, 1, none⟩ = some (.int .i64 b)
  p0 : wx.cell? ⟨m, 0, none⟩ = some (.int .i64 1)
  p1 : wx.cell? ⟨m, 1, none⟩ = some (.int .i64 2)
  p2 : wx.cell? ⟨m, 2, none⟩ = some (.int .i64 3)
  s0 : w.heap.size < wx.heap.size
  sm : m < wx.heap.size
  bl : Below w.heap.size w wx

theorem UnIn.later {w wx wy : World} {a b : Int} {m : Nat} (h : UnIn w wx a b m) (hb : Below wx.heap.size wx wy) : UnIn w wy a b m :=
  ⟨cell_later hb h.a0, cell_later hb h.a1, cell_later hb h.p0, cell_later hb h.p1, cell_later hb h.p2, Nat.lt_of_lt_of_le h.s0 hb.size, Nat.lt_of_lt_of_le h.sm hb.size, h.bl.trans (hb.mono (Nat.le_of_lt h.s0))⟩

theorem UnIn.setNew {w wx : World} {a b : Int} {m : Nat} (h : UnIn w wx a b m) (n : Nat) (h1 : w.heap.size < n) (h2 : m < n) (x y : Value) : UnIn w ((wx.setCell ⟨n, 0, none⟩ x).setCell ⟨n, 1, none⟩ y) a b m := by
  obtain ⟨a0, a1, p0, p1, p2, s0, sm, bl⟩ := h
  have e1 : ¬ n = w.heap.size := by omega
  have e2 : ¬ n = m := by omega
  have g : ∀ (c : Nat) (i : Nat), ¬ n = c → ((wx.setCell ⟨n, 0, none⟩ x).setCell ⟨n, 1, none⟩ y).cell? ⟨c, i, none⟩ = wx.cell? ⟨c, i, none⟩ := fun c i hc => by
    rw [World.cell?_setCell_far _ _ _ _ (by simpa using hc), World.cell?_setCell_far _ _ _ _ (by simpa using hc)]
  exact ⟨by rw [g _ _ e1]; exact a0, by rw [g _ _ e1]; exact a1, by rw [g _ _ e2]; exact p0, by rw [g _ _ e2]; exact p1, by rw [g _ _ e2]; exact p2, by simpa [World.setCell] using s0, by simpa [World.setCell] using sm, (bl.setCell (by simp; omega) _).setCell (by simp; omega) _⟩

/-- picked returns some number, which lies in the range if it is one. -/
def PickSome (lo hi : Int) (w : World) (e : Ending) (w' : World) : Prop := (∃ v : Int, e = .returned (.int .i64 v) ∧ (Ok64 lo hi → lo ≤ v ∧ v ≤ hi)) ∧ Below w.heap.size w w'
theorem picked_some (lo hi n : Int) (w : World) (hn : 0 ≤ n) :
    Calls Try.prog 27 #[.agg #[.int .i64 lo, .int .i64 hi], .int .u64 n] w (PickSome lo hi w) := by
  by_cases h : Ok64 lo hi
  · exact (picked_any lo hi n w h hn).mono fun _ _ ⟨⟨v, he, h1⟩, hb⟩ => ⟨⟨v, he, fun _ => h1⟩, hb⟩
  · by_cases hs : spanU lo hi = 0
    · exact (picked_full lo hi n w (by simpa using hs)).mono fun _ _ ⟨he, hb⟩ => ⟨⟨_, he, fun h' => absurd h' h⟩, hb⟩
    · exact (picked_part lo hi n w (by simpa using hs) hs).mono fun _ _ ⟨he, hb⟩ => ⟨⟨_, he, fun h' => absurd h' h⟩, hb⟩

end Go.Proofs.Ytomjcpgjlhencaa
