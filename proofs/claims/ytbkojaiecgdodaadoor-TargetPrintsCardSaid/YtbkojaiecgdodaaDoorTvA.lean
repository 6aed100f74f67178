/- A part of the proof of TacG. -/
import Derived.Test.YtbkojaiecgdodaaDoorTaM
import Derived.IntWalk
set_option linter.unusedVariables false
set_option linter.unusedSimpArgs false
set_option maxRecDepth 100000
namespace Go.Proofs.YtbkojaiecgdodaaDoor
open Go Go.Ev Go.RowKit
def Bo (W : World) (b : Bool) (e : Ending) (w' : World) : Prop := e = .returned (.bool b) ∧ Below W.heap.size W w'
theorem bo_t {f : Nat} {args : Array Value} {W : World} {p : Prop} [Decidable p] (h : Calls Tryd.prog f args W (Bo W true)) (hp : p) : Calls Tryd.prog f args W (Bo W (decide p)) := by rw [decide_eq_true hp]; exact h
theorem bo_f {f : Nat} {args : Array Value} {W : World} {p : Prop} [Decidable p] (h : Calls Tryd.prog f args W (Bo W false)) (hp : ¬ p) : Calls Tryd.prog f args W (Bo W (decide p)) := by rw [decide_eq_false hp]; exact h
@[reducible] def vs (s0 s1 s2 s3 s4 : Int) : List Value := [.int .i64 s0, .int .i64 s1, .int .i64 s2, .int .i64 s3, .int .i64 s4, .int .i64 0, .int .i64 (IntKind.i64.wrap (s4 - 15)), .int .i64 (IntKind.i64.wrap (s4 - 35))]
@[reducible] def o (n : Nat) : Value := .float .f64 n
@[reducible] def z (n : Int) : Value := .int .i64 n
@[reducible] def ag (x : Value) : Value := .agg ⟨[x, .float .f64 0, .float .f64 1, .float .f64 2, .float .f64 3]⟩
noncomputable def hT : H := roH Tryd.prog.globals.size [(0, g0), (1, g1), (2, g2), (3, g3), (4, g4)]
section
variable {den : Nat → Value} {x y : Int}
theorem a5 (a b : Value) (h : x = y) (ha : dv den a = .int .i64 x := by rfl) (hb : dv den b = .int .i64 y := by rfl) : FactOk den ⟨5, a, b, .bool true⟩ := f_eq ha hb h
theorem b5 (a b : Value) (h : ¬ x = y) (ha : dv den a = .int .i64 x := by rfl) (hb : dv den b = .int .i64 y := by rfl) : FactOk den ⟨5, a, b, .bool false⟩ := f_eq' ha hb h
theorem a7 (a b : Value) (h : x < y) (ha : dv den a = .int .i64 x := by rfl) (hb : dv den b = .int .i64 y := by rfl) : FactOk den ⟨7, a, b, .bool true⟩ := f_lt ha hb h
theorem b7 (a b : Value) (h : ¬ x < y) (ha : dv den a = .int .i64 x := by rfl) (hb : dv den b = .int .i64 y := by rfl) : FactOk den ⟨7, a, b, .bool false⟩ := f_lt' ha hb h
theorem a8 (a b : Value) (h : x ≤ y) (ha : dv den a = .int .i64 x := by rfl) (hb : dv den b = .int .i64 y := by rfl) : FactOk den ⟨8, a, b, .bool true⟩ := f_le ha hb h
theorem b8 (a b : Value) (h : ¬ x ≤ y) (ha : dv den a = .int .i64 x := by rfl) (hb : dv den b = .int .i64 y := by rfl) : FactOk den ⟨8, a, b, .bool false⟩ := f_le' ha hb h
theorem a9 (a b : Value) (h : y < x) (ha : dv den a = .int .i64 x := by rfl) (hb : dv den b = .int .i64 y := by rfl) : FactOk den ⟨9, a, b, .bool true⟩ := f_gt ha hb h
theorem b9 (a b : Value) (h : ¬ y < x) (ha : dv den a = .int .i64 x := by rfl) (hb : dv den b = .int .i64 y := by rfl) : FactOk den ⟨9, a, b, .bool false⟩ := f_gt' ha hb h
theorem a10 (a b : Value) (h : y ≤ x) (ha : dv den a = .int .i64 x := by rfl) (hb : dv den b = .int .i64 y := by rfl) : FactOk den ⟨10, a, b, .bool true⟩ := f_ge ha hb h
theorem b10 (a b : Value) (h : ¬ y ≤ x) (ha : dv den a = .int .i64 x := by rfl) (hb : dv den b = .int .i64 y := by rfl) : FactOk den ⟨10, a, b, .bool false⟩ := f_ge' ha hb h
end
section
variable {W : World} {s0 s1 s2 s3 s4 : Int}
theorem m15 : FactOk (denL (vs s0 s1 s2 s3 s4)) ⟨1, o 4, z 15, .float .f64 6⟩ := f_sub rfl rfl rfl
theorem m35 : FactOk (denL (vs s0 s1 s2 s3 s4)) ⟨1, o 4, z 35, .float .f64 7⟩ := f_sub rfl rfl rfl
theorem run5 (hL : Laid W) {F : List Fact} {C : List CF} {f : Nat} {a : Value} {b : Bool} (hF : ∀ f ∈ F, FactOk (denL (vs s0 s1 s2 s3 s4)) f) (hC : ∀ c ∈ C, Known Tryd.prog W (vs s0 s1 s2 s3 s4) c)
    (hr : om (callN (envF Tryd.prog eqTypes sp F C) 199 f [a] hT) Prod.fst = some (.bool b)) (ha : okV (denL (vs s0 s1 s2 s3 s4)) a = true := by rfl) : Calls Tryd.prog f #[dvs (denL (vs s0 s1 s2 s3 s4)) a] W (Bo W b) :=
  open_run ok0 (vs s0 s1 s2 s3 s4) F C hF hC (args := [a]) (v := .bool b) (Nat.le_refl _) (by rw [nglobals]; exact hL.size) hL.ros (by simp [ha]) rfl hr
end
end Go.Proofs.YtbkojaiecgdodaaDoor
