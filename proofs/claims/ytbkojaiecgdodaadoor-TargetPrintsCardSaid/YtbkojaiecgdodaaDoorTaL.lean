/- A part of the proof of TacG. -/
import Derived.Test.YtbkojaiecgdodaaDoorProg
import Derived.KernelRfl
import Derived.Laws.StandIn
import Derived.Shelf.Pu.Clone
import Derived.Test.YtbkojaiecgdodaaDoorEvB1
import Derived.Test.YtbkojaiecgdodaaDoorEvA
section
set_option linter.unusedVariables false
set_option linter.unusedSimpArgs false
set_option maxRecDepth 100000
namespace Go.Proofs.YtbkojaiecgdodaaDoor
open Go Go.Ev Go.RowKit
theorem names_ok : NoName Tryd.prog := by
  have : (Tryd.prog.funcs.toList.all fun f => !(f.name == "runtime.NumGoroutine")) = true := by kernel_rfl
  intro f hf
  have := List.all_eq_true.1 this f hf
  simpa using this
def eqTypes : List Nat := [26]
theorem eq_ok : ∀ t, t ∈ eqTypes → EqOk Tryd.prog t := by
  intro t ht
  have h1 : (eqTypes.all fun t => !(Tryd.prog.eqGuardType Tryd.prog.depth t)) = true := by kernel_rfl
  have h2 : (eqTypes.all fun t => !(Tryd.prog.stoodInHeld t)) = true := by kernel_rfl
  have h3 : (eqTypes.all fun t => (Tryd.prog.fieldsOf t).toList.all fun f => !(f.name == "_")) = true := by kernel_rfl
  refine ⟨by simpa using List.all_eq_true.1 h1 t ht, by simpa using List.all_eq_true.1 h2 t ht, fun f hf e => ?_⟩
  have := List.all_eq_true.1 (List.all_eq_true.1 h3 t ht) f hf
  rw [e] at this
  simp at this
open Go.Shelf
theorem find_idx : (Tryd.prog.funcs[89]?).map (fun fn => (fn.name == "internal/bytealg.IndexByteString", fn.body.isNone)) = some (true, true) := by kernel_rfl
theorem idx_run (args : Array Value) (w : World) : (callFunc 89 args).run Tryd.prog w = (do let v ← Extern.BytealgIndexByte.indexByte args; pure (.value v) : Sem Next).run Tryd.prog w := by
  have h := run_callFunc_indexByte (f := 89) Tryd.func89 (by kernel_rfl) (by kernel_rfl) (by rfl) (by rfl) args w
  rw [h, Sem.run_bind]
  rfl
def ren : Ren := ⟨fun _ => 98, fun t => if t = 37 then 71 else if t = 47 then 156 else t, fun g => g⟩
theorem lays : LaysPu.n25 Tryd.prog ren where
  mixed := by kernel_rfl
  f25 := by kernel_rfl
  t0 := Tryd.underlying0
  a0 := Tryd.isAgg0
  z0 := Tryd.sizeOf0
  v0 := Tryd.zeroValue0
  i0 := by kernel_rfl
  t3 := Tryd.underlying3
  a3 := Tryd.isAgg3
  z3 := Tryd.sizeOf3
  v3 := Tryd.zeroValue3
  i3 := by kernel_rfl
  t4 := Tryd.underlying4
  a4 := Tryd.isAgg4
  z4 := Tryd.sizeOf4
  v4 := Tryd.zeroValue4
  i4 := by kernel_rfl
  t5 := Tryd.underlying5
  a5 := Tryd.isAgg5
  z5 := Tryd.sizeOf5
  v5 := Tryd.zeroValue5
  i5 := by kernel_rfl
  t9 := Tryd.underlying9
  a9 := Tryd.isAgg9
  z9 := Tryd.sizeOf9
  v9 := Tryd.zeroValue9
  i9 := by kernel_rfl
  t37 := Tryd.underlying71
  a37 := Tryd.isAgg71
  z37 := Tryd.sizeOf71
  v37 := Tryd.zeroValue71
  i37 := by kernel_rfl
  t47 := Tryd.underlying156
  a47 := Tryd.isAgg156
  z47 := Tryd.sizeOf156
  v47 := Tryd.zeroValue156
  i47 := by kernel_rfl
theorem clone_run (s : ByteArray) (hlim : s.size ≤ 1000000) (w : World) : Calls Tryd.prog 98 #[.string s] w fun e w' => e = .returned (.string s) ∧ Below w.heap.size w w' :=
  AnyPu.stringslite_Clone lays s w (by omega)
def sp : Sp := ⟨0, 89, 98⟩
theorem sp_ok : CloneOk Tryd.prog sp :=
  ⟨fun h => absurd rfl h, fun _ args w => idx_run args w, fun _ => ⟨⟨_, _, Tryd.func98, rfl⟩, fun s w hs => clone_run s hs w⟩⟩
theorem ok0 : Ok0 Tryd.prog eqTypes sp := ⟨eq_ok, names_ok, sp_ok, by kernel_rfl⟩
theorem nglobals : Tryd.prog.globals.size = 8 := by kernel_rfl
end Go.Proofs.YtbkojaiecgdodaaDoor
end
section
set_option linter.unusedVariables false
set_option linter.unusedSimpArgs false
set_option maxRecDepth 100000
namespace Go.Proofs.YtbkojaiecgdodaaDoor
open Go Go.Ev
def g0 : List Value := [.string ⟨⟨[]⟩⟩, .int .i64 0, .int .i64 0, .int .i64 0, .string ⟨⟨[109, 111, 118, 101]⟩⟩, .int .i64 1, .int .i64 2, .int .i64 0, .string ⟨⟨[115, 101, 116]⟩⟩, .int .i64 1, .int .i64 5, .int .i64 0, .string ⟨⟨[119, 105, 100, 101]⟩⟩, .int .i64 1, .int .i64 6, .int .i64 0, .string ⟨⟨[108, 111, 97, 100]⟩⟩, .int .i64 1, .int .i64 4, .int .i64 0, .string ⟨⟨[115, 116, 111, 114, 101]⟩⟩, .int .i64 4, .int .i64 3, .int .i64 0, .string ⟨⟨[106, 117, 109, 112]⟩⟩, .int .i64 7, .int .i64 0, .int .i64 0, .string ⟨⟨[122, 101, 114, 111]⟩⟩, .int .i64 2, .int .i64 7, .int .i64 0, .string ⟨⟨[99, 104, 101, 99, 107]⟩⟩, .int .i64 2, .int .i64 3, .int .i64 0, .string ⟨⟨[99, 104, 101, 99, 107, 105]⟩⟩, .int .i64 2, .int .i64 5, .int .i64 0, .string ⟨⟨[112, 114, 105, 110, 116]⟩⟩, .int .i64 2, .int .i64 0, .int .i64 0, .string ⟨⟨[99, 97, 108, 108]⟩⟩, .int .i64 7, .int .i64 0, .int .i64 0, .string ⟨⟨[114, 101, 116, 117, 114, 110]⟩⟩, .int .i64 0, .int .i64 0, .int .i64 0, .string ⟨⟨[116, 114, 97, 112]⟩⟩, .int .i64 0, .int .i64 0, .int .i64 0, .string ⟨⟨[104, 97, 108, 116]⟩⟩, .int .i64 0, .int .i64 0, .int .i64 0]
def g1 : List Value := [.int .u64 1, .int .u64 10, .int .u64 100, .int .u64 1000, .int .u64 10000, .int .u64 100000, .int .u64 1000000, .int .u64 10000000, .int .u64 100000000, .int .u64 1000000000, .int .u64 10000000000, .int .u64 100000000000, .int .u64 1000000000000, .int .u64 10000000000000, .int .u64 100000000000000, .int .u64 1000000000000000, .int .u64 10000000000000000, .int .u64 100000000000000000, .int .u64 1000000000000000000, .int .u64 10000000000000000000]
def g2 : List Value := [.string ⟨⟨[]⟩⟩, .string ⟨⟨[97, 100, 100]⟩⟩, .string ⟨⟨[115, 117, 98]⟩⟩, .string ⟨⟨[109, 117, 108]⟩⟩, .string ⟨⟨[100, 105, 118]⟩⟩, .string ⟨⟨[114, 101, 109]⟩⟩, .string ⟨⟨[97, 110, 100]⟩⟩, .string ⟨⟨[111, 114]⟩⟩, .string ⟨⟨[120, 111, 114]⟩⟩, .string ⟨⟨[115, 104, 108]⟩⟩, .string ⟨⟨[115, 104, 114]⟩⟩, .string ⟨⟨[101, 113]⟩⟩, .string ⟨⟨[110, 101]⟩⟩, .string ⟨⟨[108, 116]⟩⟩, .string ⟨⟨[108, 101]⟩⟩]
def g3 : List Value := [.int .u8 0, .int .u8 1, .int .u8 28, .int .u8 2, .int .u8 29, .int .u8 14, .int .u8 24, .int .u8 3, .int .u8 30, .int .u8 22, .int .u8 20, .int .u8 15, .int .u8 25, .int .u8 17, .int .u8 4, .int .u8 8, .int .u8 31, .int .u8 27, .int .u8 13, .int .u8 23, .int .u8 21, .int .u8 19, .int .u8 16, .int .u8 7, .int .u8 26, .int .u8 12, .int .u8 18, .int .u8 6, .int .u8 11, .int .u8 5, .int .u8 10, .int .u8 9]
def g4 : List Value := [.int .u8 0, .int .u8 1, .int .u8 56, .int .u8 2, .int .u8 57, .int .u8 49, .int .u8 28, .int .u8 3, .int .u8 61, .int .u8 58, .int .u8 42, .int .u8 50, .int .u8 38, .int .u8 29, .int .u8 17, .int .u8 4, .int .u8 62, .int .u8 47, .int .u8 59, .int .u8 36, .int .u8 45, .int .u8 43, .int .u8 51, .int .u8 22, .int .u8 53, .int .u8 39, .int .u8 33, .int .u8 30, .int .u8 24, .int .u8 18, .int .u8 12, .int .u8 5, .int .u8 63, .int .u8 55, .int .u8 48, .int .u8 27, .int .u8 60, .int .u8 41, .int .u8 37, .int .u8 16, .int .u8 46, .int .u8 35, .int .u8 44, .int .u8 21, .int .u8 52, .int .u8 32, .int .u8 23, .int .u8 11, .int .u8 54, .int .u8 26, .int .u8 40, .int .u8 15, .int .u8 34, .int .u8 20, .int .u8 31, .int .u8 10, .int .u8 25, .int .u8 14, .int .u8 19, .int .u8 9, .int .u8 13, .int .u8 8, .int .u8 7, .int .u8 6]
def g6 : List Value := [.float .f64 6]
def g7 : List Value := [.float .f64 7]
def tables : List (Nat × List Value) := [(0, g0), (1, g1), (2, g2), (3, g3), (4, g4), (6, g6), (7, g7)]
end Go.Proofs.YtbkojaiecgdodaaDoor
end
section
set_option linter.unusedVariables false
set_option maxRecDepth 100000
namespace Go.Proofs.YtbkojaiecgdodaaDoor
open Go Go.Ev
def lf : T Value := .leaf
def nn (l r : T Value) : T Value := .node none l r
def nd (v : Value) (l r : T Value) : T Value := .node (some v) l r
def iv (n : Int) : Value := .int .i64 n
def i0 : Value := .int .i64 0
def i1 : Value := .int .i64 1
def ns : Value := .slice none 0 0
def sv (b o n c : Nat) : Value := .slice (some ⟨b, o, none⟩) n c
def en0 : T Value := .node none .leaf .leaf
def en1 : T Value := .node none en0 en0
def en2 : T Value := .node none en1 en1
def en3 : T Value := .node none en2 en2
def en4 : T Value := .node none en3 en3
def en5 : T Value := .node none en4 en4
def en6 : T Value := .node none en5 en5
def en7 : T Value := .node none en6 en6
def en8 : T Value := .node none en7 en7
def en9 : T Value := .node none en8 en8
def en10 : T Value := .node none en9 en9
def en11 : T Value := .node none en10 en10
def en12 : T Value := .node none en11 en11
noncomputable def bk0 : Nat × Blk := (574, (.cells (.node (some (.int .u64 30064771074)) en0 en0) 574))
noncomputable def bk1 : Nat × Blk := (718, (.cells (.node (some (.int .u64 30064771074)) (.node (some (.int .u64 10)) lf lf) en0) 574))
noncomputable def bk2 : Nat × Blk := (803, (.cells (.node (some (.int .u64 30064771074)) (.node (some (.int .u64 10)) lf lf) (.node (some (.int .u64 14)) lf lf)) 574))
noncomputable def run0 : Run := ⟨20, [(.string ⟨⟨[101, 110, 116, 114, 121, 32, 48, 59, 32, 115, 101, 116, 32, 114, 48, 44, 32, 55, 59, 32, 112, 114, 105, 110, 116, 32, 114, 48, 59, 32, 104, 97, 108, 116, 59]⟩⟩)], 91, [(0, (.ro (T.ofList g0))), (1, (.ro (T.ofList g1))), (2, (.ro (T.ofList g2))), (3, (.ro (T.ofList g3))), (4, (.ro (T.ofList g4))), (6, (.ro (T.ofList g6))), (7, (.ro (T.ofList g7)))], [], (.tuple ⟨[(.agg ⟨[(.slice (some ⟨803, 0, none⟩) 3 9223372036854775809), (.slice none 0 0), (.int .i64 0)]⟩), (.int .i64 0), (.int .i64 0)]⟩), 935, [(0, (.ro (T.ofList g0))), (1, (.ro (T.ofList g1))), (2, (.ro (T.ofList g2))), (3, (.ro (T.ofList g3))), (4, (.ro (T.ofList g4))), (6, (.ro (T.ofList g6))), (7, (.ro (T.ofList g7))), bk0, bk1, bk2], [(574, [803, 718, 574])]⟩
noncomputable def run1 : Run := ⟨20, [(.string ⟨⟨[101, 110, 116, 114, 121, 32, 48, 59, 32, 115, 101, 116, 32, 114, 48, 44, 32, 50, 49, 52, 55, 52, 56, 51, 54, 52, 56, 59]⟩⟩)], 936, [(0, (.ro (T.ofList g0))), (1, (.ro (T.ofList g1))), (2, (.ro (T.ofList g2))), (3, (.ro (T.ofList g3))), (4, (.ro (T.ofList g4))), (6, (.ro (T.ofList g6))), (7, (.ro (T.ofList g7)))], [], (.tuple ⟨[(.agg ⟨[(.slice none 0 0), (.slice none 0 0), (.int .i64 0)]⟩), (.int .i64 17), (.int .i64 6)]⟩), 1433, [(0, (.ro (T.ofList g0))), (1, (.ro (T.ofList g1))), (2, (.ro (T.ofList g2))), (3, (.ro (T.ofList g3))), (4, (.ro (T.ofList g4))), (6, (.ro (T.ofList g6))), (7, (.ro (T.ofList g7)))], []⟩
end Go.Proofs.YtbkojaiecgdodaaDoor
end
