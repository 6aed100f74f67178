/- The walks of the program's function Assume of layer 4, over what its map of narrowings answers. -/
import Derived.Test.YtomjcpgjlhencaaKRngR
set_option linter.unusedSimpArgs false
set_option linter.unusedVariables false
namespace Go.Proofs.Ytomjcpgjlhencaa
open Go.RowKit
attribute [local go_sem] World.setCell_self

theorem run_eql_nil (w : World) : (binOp .eql 88 .nilFunc .nilFunc).run Try.prog w = .ok (.bool true) w := by kernel_rfl
theorem run_eql_fn (f : Nat) (w : World) : (binOp .eql 88 (.func (.func f) #[] #[]) .nilFunc).run Try.prog w = .ok (.bool false) w := by kernel_rfl
theorem run_neq_nil (w : World) : (binOp .neq 88 .nilFunc .nilFunc).run Try.prog w = .ok (.bool false) w := by kernel_rfl
theorem run_neq_fn (f : Nat) (w : World) : (binOp .neq 88 (.func (.func f) #[] #[]) .nilFunc).run Try.prog w = .ok (.bool true) w := by kernel_rfl

def fnV (f : Nat) : Value := .func (.func f) #[] #[]
/-- From this world on the map m has the answer v for op. -/
def Asks (m : Value) (w0 : World) (op : Int) (v : Value) : Prop := ∀ w2, Below w0.heap.size w0 w2 → (Instr.lookup 85 m (.int .i64 op) false).run Try.prog w2 = .ok v w2
/-- comparisons returns a map with these answers. -/
def CompOut (l : List (Int × Value)) (w : World) (e : Ending) (w' : World) : Prop := ∃ m, e = .returned m ∧ Below w.heap.size w w' ∧ ∀ p ∈ l, Asks m w' p.1 p.2

set_option maxRecDepth 100000 in
set_option maxHeartbeats 2000000 in
theorem passume_nil (op k a b c d : Int) (r : Bool) (w : World) (C : ∀ w, Hid (Calls Try.prog 45 #[.int .i64 k] w (CompOut [(op, .nilFunc)] w))) :
    Calls Try.prog 25 #[.int .i64 op, .int .i64 k, .agg #[.int .i64 a, .int .i64 b], .agg #[.int .i64 c, .int .i64 d], .bool r] w fun e w' => e = .returned (assV ⟨0, 0, 0, 0, false⟩ 2) ∧ Below w.heap.size w w' := by
  have q0 := run_eql_nil
  have q1 := run_eql_fn
  go_enter Try.func25, Try.ntmps25
  go_wp2_with fail
  have I := narIn w a b c d
  generalize ((((w.alloc (.cells #[.int .i64 a, .int .i64 b] 23)).alloc (.cells #[.int .i64 c, .int .i64 d] 23)).alloc (.cells #[.int .i64 0, .int .i64 0] 23)).alloc (.cells #[.int .i64 0, .int .i64 0] 23)) = W at *
  refine (C _).out.mono ?_
  rintro e w1 ⟨m, rfl, hb, hM⟩
  have L := hM _ (List.mem_singleton.2 rfl) w1 (Below.refl _ _)
  dsimp only at L
  have I := I.later hb
  clear hM hb C
  obtain ⟨a0, a1, b0, b1, u0, u1, v0, v1, fx0, fx1, fy0, fy1, sz, bl⟩ := I
  go_wp2
  refine bodyPost_ret (v := assV ⟨0, 0, 0, 0, false⟩ 2) (by simp [results, Try.results25, go_sem, assV, u0, u1, v0, v1]) rfl ⟨rfl, bl⟩

set_option maxRecDepth 100000 in
set_option maxHeartbeats 2000000 in
theorem passume_bad (op k a b c d : Int) (r : Bool) (f : Nat) (w : World) (C : ∀ w, Hid (Calls Try.prog 45 #[.int .i64 k] w (CompOut [(op, fnV f)] w))) (A : Are2 k a b c d false) :
    Calls Try.prog 25 #[.int .i64 op, .int .i64 k, .agg #[.int .i64 a, .int .i64 b], .agg #[.int .i64 c, .int .i64 d], .bool r] w fun e w' => e = .returned (assV ⟨0, 0, 0, 0, false⟩ 2) ∧ Below w.heap.size w w' := by
  have A := Lib.hid A
  have q0 := run_eql_nil
  have q1 := run_eql_fn
  go_enter Try.func25, Try.ntmps25
  go_wp2_with fail
  have I := narIn w a b c d
  generalize ((((w.alloc (.cells #[.int .i64 a, .int .i64 b] 23)).alloc (.cells #[.int .i64 c, .int .i64 d] 23)).alloc (.cells #[.int .i64 0, .int .i64 0] 23)).alloc (.cells #[.int .i64 0, .int .i64 0] 23)) = W at *
  refine (C _).out.mono ?_
  rintro e w1 ⟨m, rfl, hb, hM⟩
  have L := hM _ (List.mem_singleton.2 rfl) w1 (Below.refl _ _)
  dsimp only [fnV] at L
  have I := I.later hb
  clear hM hb C
  have J := Lib.hid I
  obtain ⟨a0, a1, b0, b1, u0, u1, v0, v1, fx0, fx1, fy0, fy1, sz, bl⟩ := I
  go_wp2_with fail
  refine (A.out _ _ _ (by simp) (by omega) ⟨by go_simp, by go_simp⟩ ⟨by go_simp, by go_simp⟩).mono ?_
  clear a0 a1 b0 b1 u0 u1 v0 v1 fx0 fx1 fy0 fy1 sz bl L
  rintro e w2 ⟨rfl, hb⟩
  have I := J.out.later (((Below.refl _ _).alloc (Nat.le_refl _) _).trans (hb.mono (by simp)))
  clear J hb
  obtain ⟨a0, a1, b0, b1, u0, u1, v0, v1, fx0, fx1, fy0, fy1, sz, bl⟩ := I
  go_wp2
  refine bodyPost_ret (v := assV ⟨0, 0, 0, 0, false⟩ 2) (by simp [results, Try.results25, go_sem, assV, u0, u1, v0, v1]) rfl ⟨rfl, bl⟩

set_option maxRecDepth 100000 in
set_option maxHeartbeats 2000000 in
theorem passume_true (op k a b c d x0 x1 y0 y1 : Int) (p : Bool) (f : Nat) (w : World) (C : ∀ w, Hid (Calls Try.prog 45 #[.int .i64 k] w (CompOut [(op, fnV f)] w))) (A : Are2 k a b c d true)
    (eg : ∀ args w, (callFunc f args).run Try.prog w = .ok (.enter f args) w) (F : ∀ w, Hid (Calls Try.prog f #[.agg #[.int .i64 a, .int .i64 b], .agg #[.int .i64 c, .int .i64 d]] w fun e w' => e = .returned (.tuple #[.agg #[.int .i64 x0, .int .i64 x1], .agg #[.int .i64 y0, .int .i64 y1], .bool p]) ∧ Below w.heap.size w w')) :
    Calls Try.prog 25 #[.int .i64 op, .int .i64 k, .agg #[.int .i64 a, .int .i64 b], .agg #[.int .i64 c, .int .i64 d], .bool true] w fun e w' => e = .returned (assV ⟨x0, x1, y0, y1, p⟩ 0) ∧ Below w.heap.size w w' := by
  have A := Lib.hid A
  have q0 := run_eql_nil
  have q1 := run_eql_fn
  go_enter Try.func25, Try.ntmps25
  go_wp2_with fail
  have I := narIn w a b c d
  generalize ((((w.alloc (.cells #[.int .i64 a, .int .i64 b] 23)).alloc (.cells #[.int .i64 c, .int .i64 d] 23)).alloc (.cells #[.int .i64 0, .int .i64 0] 23)).alloc (.cells #[.int .i64 0, .int .i64 0] 23)) = W at *
  refine (C _).out.mono ?_
  rintro e w1 ⟨m, rfl, hb, hM⟩
  have M := Lib.hid (hM _ (List.mem_singleton.2 rfl))
  have L := M.out w1 (Below.refl _ _)
  dsimp only [fnV] at L
  have I := I.later hb
  clear hM hb C
  have J := Lib.hid I
  obtain ⟨a0, a1, b0, b1, u0, u1, v0, v1, fx0, fx1, fy0, fy1, sz, bl⟩ := I
  go_wp2_with fail
  refine (A.out _ _ _ (by simp) (by omega) ⟨by go_simp, by go_simp⟩ ⟨by go_simp, by go_simp⟩).mono ?_
  clear a0 a1 b0 b1 u0 u1 v0 v1 fx0 fx1 fy0 fy1 sz bl L
  rintro e w2 ⟨rfl, hb⟩
  have I := J.out.later (((Below.refl _ _).alloc (Nat.le_refl _) _).trans (hb.mono (by simp)))
  have L := M.out w2 (((Below.refl _ _).alloc (Nat.le_refl _) _).trans (hb.mono (by simp)))
  dsimp only [fnV] at L
  clear J hb M
  have J := Lib.hid I
  obtain ⟨a0, a1, b0, b1, u0, u1, v0, v1, fx0, fx1, fy0, fy1, sz, bl⟩ := I
  go_wp2_with fail
  refine (F _).out.mono ?_
  clear a0 a1 b0 b1 u0 u1 v0 v1 fx0 fx1 fy0 fy1 sz bl L
  rintro e w3 ⟨rfl, hb⟩
  have I := J.out.later hb
  clear J hb
  obtain ⟨a0, a1, b0, b1, u0, u1, v0, v1, fx0, fx1, fy0, fy1, sz, bl⟩ := I
  go_wp2
  go_region
  go_wp2
  refine bodyPost_ret (v := assV ⟨x0, x1, y0, y1, p⟩ 0) (by simp [results, Try.results25, go_sem, assV, u0, u1, v0, v1]) rfl ⟨rfl, ?_⟩
  repeat (first | exact bl | refine Below.drew ?_ | refine Below.setCell ?_ (by simp; try omega) _)

set_option maxRecDepth 100000 in
set_option maxHeartbeats 2000000 in
theorem passume_false (op op' k a b c d x0 x1 y0 y1 : Int) (p : Bool) (f g : Nat) (w : World) (P : ∀ w, Hid (Calls Try.prog 46 #[.int .i64 op] w fun e w' => e = .returned (.int .i64 op') ∧ w = w')) (C : ∀ w, Hid (Calls Try.prog 45 #[.int .i64 k] w (CompOut [(op, fnV g), (op', fnV f)] w))) (A : Are2 k a b c d true)
    (eg : ∀ args w, (callFunc f args).run Try.prog w = .ok (.enter f args) w) (F : ∀ w, Hid (Calls Try.prog f #[.agg #[.int .i64 a, .int .i64 b], .agg #[.int .i64 c, .int .i64 d]] w fun e w' => e = .returned (.tuple #[.agg #[.int .i64 x0, .int .i64 x1], .agg #[.int .i64 y0, .int .i64 y1], .bool p]) ∧ Below w.heap.size w w')) :
    Calls Try.prog 25 #[.int .i64 op, .int .i64 k, .agg #[.int .i64 a, .int .i64 b], .agg #[.int .i64 c, .int .i64 d], .bool false] w fun e w' => e = .returned (assV ⟨x0, x1, y0, y1, p⟩ 0) ∧ Below w.heap.size w w' := by
  have A := Lib.hid A
  have q0 := run_eql_nil
  have q1 := run_eql_fn
  go_enter Try.func25, Try.ntmps25
  go_wp2_with fail
  have I := narIn w a b c d
  generalize ((((w.alloc (.cells #[.int .i64 a, .int .i64 b] 23)).alloc (.cells #[.int .i64 c, .int .i64 d] 23)).alloc (.cells #[.int .i64 0, .int .i64 0] 23)).alloc (.cells #[.int .i64 0, .int .i64 0] 23)) = W at *
  refine (C _).out.mono ?_
  rintro e w1 ⟨m, rfl, hb, hM⟩
  have M := Lib.hid (hM (op', fnV f) (by simp))
  have L := hM (op, fnV g) (by simp) w1 (Below.refl _ _)
  dsimp only [fnV] at L
  have I := I.later hb
  clear hM hb C
  have J := Lib.hid I
  obtain ⟨a0, a1, b0, b1, u0, u1, v0, v1, fx0, fx1, fy0, fy1, sz, bl⟩ := I
  go_wp2_with fail
  refine (A.out _ _ _ (by simp) (by omega) ⟨by go_simp, by go_simp⟩ ⟨by go_simp, by go_simp⟩).mono ?_
  clear a0 a1 b0 b1 u0 u1 v0 v1 fx0 fx1 fy0 fy1 sz bl L
  rintro e w2 ⟨rfl, hb⟩
  have I := J.out.later (((Below.refl _ _).alloc (Nat.le_refl _) _).trans (hb.mono (by simp)))
  have L := M.out w2 (((Below.refl _ _).alloc (Nat.le_refl _) _).trans (hb.mono (by simp)))
  dsimp only [fnV] at L
  clear J hb M
  have J := Lib.hid I
  obtain ⟨a0, a1, b0, b1, u0, u1, v0, v1, fx0, fx1, fy0, fy1, sz, bl⟩ := I
  go_wp2_with (go_at_call 46; refine (P _).out.mono ?_; rintro eo wo ⟨rfl, rfl⟩)
  refine (F _).out.mono ?_
  clear a0 a1 b0 b1 u0 u1 v0 v1 fx0 fx1 fy0 fy1 sz bl L
  rintro e w3 ⟨rfl, hb⟩
  have I := J.out.later hb
  clear J hb
  obtain ⟨a0, a1, b0, b1, u0, u1, v0, v1, fx0, fx1, fy0, fy1, sz, bl⟩ := I
  go_wp2
  go_region
  go_wp2
  refine bodyPost_ret (v := assV ⟨x0, x1, y0, y1, p⟩ 0) (by simp [results, Try.results25, go_sem, assV, u0, u1, v0, v1]) rfl ⟨rfl, ?_⟩
  repeat (first | exact bl | refine Below.drew ?_ | refine Below.setCell ?_ (by simp; try omega) _)

end Go.Proofs.Ytomjcpgjlhencaa
