/- The tables, and the functions that the evaluator knows of themselves. -/
import Derived.Test.YtlcnpcaeoahobaaGreatDoorProg
import Derived.KernelRfl
import Derived.Laws.StandIn
import Derived.Shelf.Pu.Clone
import Derived.Test.YtlcnpcaeoahobaaGreatDoorEvB1
import Derived.Test.YtlcnpcaeoahobaaGreatDoorEvA
section
set_option linter.unusedVariables false
set_option linter.unusedSimpArgs false
namespace Go.Proofs.YtlcnpcaeoahobaaGreatDoor
open Go Go.Ev Go.RowKit Go.Shelf

theorem names_ok : NoName Tryz.prog := by
  have : (Tryz.prog.funcs.toList.all fun f => !(f.name == "runtime.NumGoroutine")) = true := by kernel_rfl
  intro f hf
  have := List.all_eq_true.1 this f hf
  simpa using this
def eqTypes : List Nat := [23, 69, 73, 82, 102]
theorem eq_ok : ∀ t, t ∈ eqTypes → EqOk Tryz.prog t := by
  intro t ht
  have h1 : (eqTypes.all fun t => !(Tryz.prog.eqGuardType Tryz.prog.depth t)) = true := by kernel_rfl
  have h2 : (eqTypes.all fun t => !(Tryz.prog.stoodInHeld t)) = true := by kernel_rfl
  have h3 : (eqTypes.all fun t => (Tryz.prog.fieldsOf t).toList.all fun f => !(f.name == "_")) = true := by kernel_rfl
  refine ⟨by simpa using List.all_eq_true.1 h1 t ht, by simpa using List.all_eq_true.1 h2 t ht, fun f hf e => ?_⟩
  have := List.all_eq_true.1 (List.all_eq_true.1 h3 t ht) f hf
  rw [e] at this
  simp at this
theorem find126 : (Tryz.prog.funcs[126]?).map (fun fn => (fn.name == "internal/bytealg.IndexByteString", fn.body.isNone)) = some (true, true) := by kernel_rfl
theorem idx_run (args : Array Value) (w : World) : (callFunc 126 args).run Tryz.prog w = (do let v ← Extern.BytealgIndexByte.indexByte args; pure (.value v) : Sem Next).run Tryz.prog w := by
  have h := run_callFunc_indexByte (f := 126) Tryz.func126 (by kernel_rfl) (by kernel_rfl) (by rfl) (by rfl) args w
  rw [h, Sem.run_bind]
  rfl

/-- the numbers of the shelf's function and of its types -/
def ren : Ren := ⟨fun _ => 144, fun t => if t = 37 then 65 else if t = 47 then 210 else t, fun g => g⟩
theorem lays : LaysPu.n25 Tryz.prog ren where
  mixed := by kernel_rfl
  f25 := by kernel_rfl
  t0 := Tryz.underlying0
  a0 := Tryz.isAgg0
  z0 := Tryz.sizeOf0
  v0 := Tryz.zeroValue0
  i0 := by kernel_rfl
  t3 := Tryz.underlying3
  a3 := Tryz.isAgg3
  z3 := Tryz.sizeOf3
  v3 := Tryz.zeroValue3
  i3 := by kernel_rfl
  t4 := Tryz.underlying4
  a4 := Tryz.isAgg4
  z4 := Tryz.sizeOf4
  v4 := Tryz.zeroValue4
  i4 := by kernel_rfl
  t5 := Tryz.underlying5
  a5 := Tryz.isAgg5
  z5 := Tryz.sizeOf5
  v5 := Tryz.zeroValue5
  i5 := by kernel_rfl
  t9 := Tryz.underlying9
  a9 := Tryz.isAgg9
  z9 := Tryz.sizeOf9
  v9 := Tryz.zeroValue9
  i9 := by kernel_rfl
  t37 := Tryz.underlying65
  a37 := Tryz.isAgg65
  z37 := Tryz.sizeOf65
  v37 := Tryz.zeroValue65
  i37 := by kernel_rfl
  t47 := Tryz.underlying210
  a47 := Tryz.isAgg210
  z47 := Tryz.sizeOf210
  v47 := Tryz.zeroValue210
  i47 := by kernel_rfl
/-- stringslite.Clone: the same bytes -/
theorem clone_run (s : ByteArray) (hlim : s.size ≤ 1000000) (w : World) : Calls Tryz.prog 144 #[.string s] w fun e w' => e = .returned (.string s) ∧ Below w.heap.size w w' :=
  AnyPu.stringslite_Clone lays s w (by omega)

/-- the functions that are known of themselves -/
def sp : Sp := ⟨0, 126, 144⟩
theorem sp_ok : CloneOk Tryz.prog sp :=
  ⟨fun h => absurd rfl h, fun _ args w => idx_run args w, fun _ => ⟨⟨_, _, Tryz.func144, rfl⟩, fun s w hs => clone_run s hs w⟩⟩
theorem ok0 : Ok0 Tryz.prog eqTypes sp := ⟨eq_ok, names_ok, sp_ok, by kernel_rfl⟩
theorem nglobals : Tryz.prog.globals.size = 8 := by kernel_rfl
end Go.Proofs.YtlcnpcaeoahobaaGreatDoor
end
section
namespace Go.Proofs.YtlcnpcaeoahobaaGreatDoor
open Go Go.Ev
def g0 : List Value := [.bool false, .bool false, .bool false, .bool false, .bool false, .bool false, .bool false, .bool false, .bool false, .bool false, .bool true, .bool true, .bool false, .bool false, .bool false, .bool false, .bool false, .bool false, .bool true, .bool true, .bool true, .bool true, .bool false, .bool false, .bool false, .bool false, .bool false, .bool false, .bool false, .bool true, .bool true, .bool false, .bool false, .bool false, .bool false, .bool false, .bool false, .bool true, .bool true, .bool false, .bool true, .bool false, .bool false, .bool false, .bool false, .bool false, .bool false, .bool true, .bool true, .bool true, .bool false, .bool false, .bool false, .bool false, .bool false, .bool true, .bool false, .bool false, .bool false, .bool true, .bool false, .bool false, .bool false, .bool false, .bool false, .bool true, .bool false, .bool false, .bool true, .bool false, .bool false, .bool false, .bool false, .bool false, .bool true, .bool false, .bool false, .bool false, .bool false, .bool false, .bool false, .bool false, .bool true, .bool false, .bool false, .bool false, .bool false, .bool true, .bool true, .bool false, .bool false, .bool true, .bool false, .bool false, .bool false, .bool false, .bool false, .bool true, .bool true]
def g1 : List Value := [.string ⟨⟨[]⟩⟩, .string ⟨⟨[97, 100, 100]⟩⟩, .string ⟨⟨[115, 117, 98]⟩⟩, .string ⟨⟨[109, 117, 108]⟩⟩, .string ⟨⟨[100, 105, 118]⟩⟩, .string ⟨⟨[114, 101, 109]⟩⟩, .string ⟨⟨[97, 110, 100]⟩⟩, .string ⟨⟨[111, 114]⟩⟩, .string ⟨⟨[120, 111, 114]⟩⟩, .string ⟨⟨[115, 104, 108]⟩⟩, .string ⟨⟨[115, 104, 114]⟩⟩, .string ⟨⟨[101, 113]⟩⟩, .string ⟨⟨[110, 101]⟩⟩, .string ⟨⟨[108, 116]⟩⟩, .string ⟨⟨[108, 101]⟩⟩]
def g2 : List Value := [.int .u64 1, .int .u64 10, .int .u64 100, .int .u64 1000, .int .u64 10000, .int .u64 100000, .int .u64 1000000, .int .u64 10000000, .int .u64 100000000, .int .u64 1000000000, .int .u64 10000000000, .int .u64 100000000000, .int .u64 1000000000000, .int .u64 10000000000000, .int .u64 100000000000000, .int .u64 1000000000000000, .int .u64 10000000000000000, .int .u64 100000000000000000, .int .u64 1000000000000000000, .int .u64 10000000000000000000]
def g6 : List Value := [.float .f64 6]
def g7 : List Value := [.float .f64 7]
/-- the tables of the program; those of the two errors of strconv are not looked at -/
def tables : List (Nat × List Value) := [(0, g0), (1, g1), (2, g2), (6, g6), (7, g7)]
end Go.Proofs.YtlcnpcaeoahobaaGreatDoor
end
