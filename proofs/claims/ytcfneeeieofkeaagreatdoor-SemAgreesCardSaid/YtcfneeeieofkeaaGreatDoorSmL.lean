/- A part of the proof of SgG. -/
import Derived.Test.YtcfneeeieofkeaaGreatDoorEvA
import Derived.Test.YtcfneeeieofkeaaGreatDoorSmA
section
namespace Go.Proofs.YtcfneeeieofkeaaGreatDoor
open Go Go.Ev
def g0 : List Value := [.bool false, .bool false, .bool false, .int .i64 0, .int .i64 0, .bool false, .bool false, .bool true, .bool true, .bool false, .int .i64 0, .int .i64 1, .bool false, .bool false, .bool true, .bool false, .bool false, .int .i64 1, .int .i64 1, .bool false, .bool false, .bool true, .bool false, .bool false, .int .i64 2, .int .i64 2, .bool false, .bool false, .bool false, .bool false, .bool false, .int .i64 1, .int .i64 1, .bool false, .bool false, .bool false, .bool false, .bool false, .int .i64 1, .int .i64 1, .bool false, .bool false, .bool false, .bool false, .bool false, .int .i64 0, .int .i64 0, .bool false, .bool false, .bool false, .bool false, .bool false, .int .i64 1, .int .i64 1, .bool true, .bool true, .bool false, .bool false, .bool true, .int .i64 1, .int .i64 1, .bool true, .bool false, .bool true, .bool false, .bool false, .int .i64 2, .int .i64 2, .bool true, .bool false, .bool false, .bool false, .bool false, .int .i64 0, .int .i64 0, .bool false, .bool false, .bool false, .bool false, .bool false, .int .i64 0, .int .i64 0, .bool false, .bool false, .bool false, .bool false, .bool false, .int .i64 0, .int .i64 1, .bool false, .bool false]
def g1 : List Value := [.int .i64 0, .bool false, .int .i64 0, .int .i64 0, .int .i64 0, .int .i64 9223372036854775807, .bool false, .int .i64 0, .int .i64 0, .int .i64 0, .int .i64 255, .bool false, .int .i64 0, .int .i64 0, .int .i64 0, .int .i64 1, .bool false, .int .i64 0, .int .i64 0, .int .i64 0, .int .i64 0, .bool true, .int .i64 0, .int .i64 0, .int .i64 0, .int .i64 0, .bool true, .int .i64 0, .int .i64 1, .int .i64 1, .int .i64 0, .bool true, .int .i64 0, .int .i64 0, .int .i64 4, .int .i64 0, .bool false, .int .i64 3, .int .i64 1, .int .i64 1, .int .i64 0, .bool false, .int .i64 18, .int .i64 2, .int .i64 2, .int .i64 0, .bool false, .int .i64 0, .int .i64 1, .int .i64 1, .int .i64 0, .bool false, .int .i64 0, .int .i64 1, .int .i64 1]
end Go.Proofs.YtcfneeeieofkeaaGreatDoor
end
section
set_option linter.unusedVariables false
set_option linter.unusedSimpArgs false
namespace Go.Proofs.YtcfneeeieofkeaaGreatDoor
open Go.Ev Go.RowKit
/-- what the tables hold -/
def Laid (W : World) : Prop := (∀ (o : Nat) (u : Value), g0[o]? = some u → W.cell? ⟨0, o, none⟩ = some u) ∧ (∀ (o : Nat) (u : Value), g1[o]? = some u → W.cell? ⟨1, o, none⟩ = some u)
theorem Laid.size {W : World} (h : Laid W) : 2 ≤ W.heap.size := by
  have := World.block_lt_of_cell? W _ (h.2 0 _ rfl)
  exact this
theorem flat0 : flatL g0 = true := by rfl
theorem flat1 : flatL g1 = true := by rfl
theorem Laid.ros {W : World} (h : Laid W) : ∀ p ∈ [(0, g0), (1, g1)], p.1 < Tryz.prog.globals.size ∧ flatL p.2 = true ∧ ∀ (o : Nat) (u : Value), p.2[o]? = some u → W.cell? ⟨p.1, o, none⟩ = some u := by
  intro p hp
  rw [nglobals]
  simp at hp
  rcases hp with rfl | rfl
  · exact ⟨by decide, flat0, h.1⟩
  · exact ⟨by decide, flat1, h.2⟩
end Go.Proofs.YtcfneeeieofkeaaGreatDoor
end
section
set_option linter.unusedVariables false
set_option maxRecDepth 100000
namespace Go.Proofs.YtcfneeeieofkeaaGreatDoor
open Go Go.Ev
def str1 : Value := .string ⟨⟨[102, 117, 110, 99, 32, 109, 97, 105, 110, 40, 41, 32, 123, 32, 112, 114, 105, 110, 116, 32, 55, 32, 47, 32, 50, 59, 32, 112, 114, 105, 110, 116, 32, 45, 55, 32, 37, 32, 50, 59, 32, 112, 114, 105, 110, 116, 32, 50, 48, 48, 115, 32, 43, 32, 49, 48, 48, 115, 59, 32, 112, 114, 105, 110, 116, 32, 45, 57, 50, 50, 51, 51, 55, 50, 48, 51, 54, 56, 53, 52, 55, 55, 53, 56, 48, 55, 32, 45, 32, 50, 59, 32, 125]⟩⟩
def pl1 : List Value := []
def ou1 : List Value := [.int .i64 3, .int .i64 (-1), .int .i64 44, .int .i64 9223372036854775807]
def str2 : Value := .string ⟨⟨[102, 117, 110, 99, 32, 109, 97, 105, 110, 40, 41, 32, 123, 32, 112, 114, 105, 110, 116, 32, 49, 59, 32, 112, 114, 105, 110, 116, 32, 49, 32, 47, 32, 48, 59, 32, 125]⟩⟩
def pl2 : List Value := [.int .i64 0, .int .i64 1, .int .i64 2]
def ou2 : List Value := [.int .i64 1]
def str3 : Value := .string ⟨⟨[102, 117, 110, 99, 32, 109, 97, 105, 110, 40, 41, 32, 123, 32, 112, 114, 105, 110, 116, 32, 49, 32, 60, 60, 32, 54, 52, 59, 32, 125]⟩⟩
def pl3 : List Value := [.int .i64 0, .int .i64 0, .int .i64 2]
def ou3 : List Value := []
def str4 : Value := .string ⟨⟨[102, 117, 110, 99, 32, 109, 97, 105, 110, 40, 41, 32, 123, 32, 108, 101, 116, 32, 110, 58, 32, 105, 110, 116, 32, 61, 32, 48, 59, 32, 119, 104, 105, 108, 101, 32, 116, 114, 117, 101, 32, 117, 112, 116, 111, 32, 51, 32, 123, 32, 110, 32, 61, 32, 110, 32, 43, 32, 49, 59, 32, 125, 32, 112, 114, 105, 110, 116, 32, 110, 59, 32, 125]⟩⟩
def pl4 : List Value := []
def ou4 : List Value := [.int .i64 3]
def str5 : Value := .string ⟨⟨[102, 117, 110, 99, 32, 102, 40, 97, 58, 32, 105, 110, 116, 91, 50, 93, 41, 32, 123, 32, 97, 91, 49, 93, 32, 61, 32, 53, 59, 32, 125, 32, 102, 117, 110, 99, 32, 109, 97, 105, 110, 40, 41, 32, 123, 32, 108, 101, 116, 32, 98, 58, 32, 105, 110, 116, 91, 50, 93, 59, 32, 102, 40, 98, 41, 59, 32, 112, 114, 105, 110, 116, 32, 98, 91, 49, 93, 59, 32, 108, 101, 116, 32, 105, 58, 32, 105, 110, 116, 32, 61, 32, 50, 59, 32, 98, 91, 105, 93, 32, 61, 32, 49, 32, 47, 32, 48, 59, 32, 125]⟩⟩
def pl5 : List Value := [.int .i64 1, .int .i64 4, .int .i64 3]
def ou5 : List Value := [.int .i64 5]
end Go.Proofs.YtcfneeeieofkeaaGreatDoor
end
