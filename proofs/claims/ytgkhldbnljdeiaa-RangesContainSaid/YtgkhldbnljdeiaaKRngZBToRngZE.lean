/- RngZB, RngZI, RngZC, RngZD, RngZE. -/
import Derived.Test.YtgkhldbnljdeiaaKRngZA
import Derived.Test.YtgkhldbnljdeiaaKRngRToRngU
import Derived.Test.YtgkhldbnljdeiaaKLawPickedToRngK
set_option linter.unusedSimpArgs false
set_option linter.unusedVariables false
/- binaryOf and Binary of layer 4, over what the maps of operators answer. -/
namespace Go.Proofs.Ytgkhldbnljdeiaa
open Go.RowKit RangesMath
attribute [local go_sem] World.setCell_self

/-- A map of operators has no answer for op. -/
def FindNo (op : Int) (w : World) (e : Ending) (w' : World) : Prop := ∃ m, e = .returned m ∧ Below w.heap.size w w' ∧ (Instr.lookup 100 m (.int .i64 op) true).run Try.prog w' = .ok (.tuple #[.nilFunc, .bool false]) w'
/-- From this world on the function g, with what it has captured, makes this effect of two ranges. -/
def Makes (g : Nat) (cap : Array Value) (a b c d x y : Int) (s t u : Bool) (w : World) : Prop := ∀ w2, Below w.heap.size w w2 → Calls Try.prog g (#[.agg #[.int .i64 a, .int .i64 b], .agg #[.int .i64 c, .int .i64 d]] ++ cap) w2 fun e w' => e = .returned (EffV x y s t u) ∧ Below w2.heap.size w2 w'
/-- A map of operators answers op by a function that makes this effect. -/
def FindEff (op a b c d x y : Int) (s t u : Bool) (w : World) (e : Ending) (w' : World) : Prop := ∃ m g cap, e = .returned m ∧ Below w.heap.size w w' ∧ (Instr.lookup 100 m (.int .i64 op) true).run Try.prog w' = .ok (.tuple #[.func (.func g) #[] cap, .bool true]) w' ∧ Enters g ∧ Makes g cap a b c d x y s t u w'
def BofEff (a b c d x y : Int) (s t u : Bool) (w : World) (e : Ending) (w' : World) : Prop := ∃ g cap, e = .returned (.tuple #[.func (.func g) #[] cap, .bool true]) ∧ Below w.heap.size w w' ∧ Enters g ∧ Makes g cap a b c d x y s t u w'
def BofNo (w : World) (e : Ending) (w' : World) : Prop := e = .returned (.tuple #[.nilFunc, .bool false]) ∧ Below w.heap.size w w'
theorem Makes.later {g : Nat} {cap : Array Value} {a b c d x y : Int} {s t u : Bool} {w w' : World} (h : Makes g cap a b c d x y s t u w) (hb : Below w.heap.size w w') : Makes g cap a b c d x y s t u w' := fun w2 h2 => h w2 (hb.trans (h2.mono hb.size))

set_option maxRecDepth 100000 in
set_option maxHeartbeats 4000000 in
theorem pbof_arith_1 (op a b c d x y : Int) (s t u : Bool) (w : World) (C : ∀ w, Hid (Calls Try.prog 45 #[.int .i64 1] w (CompOut [(op, .nilFunc)] w))) (N : ∀ w, Hid (Calls Try.prog 59 #[.int .i64 1] w (FindNo op w))) (Y : ∀ w, Hid (Calls Try.prog 60 #[.int .i64 1] w (FindEff op a b c d x y s t u w))) :
    Calls Try.prog 37 #[.int .i64 op, .int .i64 1] w (BofEff a b c d x y s t u w) := by
  have q0 := run_neq_nil
  go_enter Try.func37, Try.ntmps37
  go_wp2_with fail
  refine (C _).out.mono ?_
  rintro e w1 ⟨m, rfl, hb1, hM⟩
  have L := hM _ (List.mem_singleton.2 rfl) w1 (Below.refl _ _)
  dsimp only at L
  clear hM
  go_wp2_with fail
  clear L
  refine (N _).out.mono ?_
  rintro e w2 ⟨m2, rfl, hb2, L2⟩
  go_wp2_with fail
  clear L2
  refine (Y _).out.mono ?_
  rintro e w3 ⟨m3, g, cap, rfl, hb3, L3, hE, hK⟩
  have HK := Lib.hid hK
  have HE := Lib.hid hE
  clear hK hE
  go_wp2
  go_ret2
  exact ⟨g, cap, rfl, (hb1.trans (hb2.mono hb1.size)).trans (hb3.mono (Nat.le_trans hb1.size hb2.size)), HE.out, HK.out⟩

set_option maxRecDepth 100000 in
set_option maxHeartbeats 4000000 in
theorem pbof_none_1 (op : Int) (w : World) (C : ∀ w, Hid (Calls Try.prog 45 #[.int .i64 1] w (CompOut [(op, .nilFunc)] w))) (N : ∀ w, Hid (Calls Try.prog 59 #[.int .i64 1] w (FindNo op w))) (Y : ∀ w, Hid (Calls Try.prog 60 #[.int .i64 1] w (FindNo op w))) :
    Calls Try.prog 37 #[.int .i64 op, .int .i64 1] w (BofNo w) := by
  have q0 := run_neq_nil
  go_enter Try.func37, Try.ntmps37
  go_wp2_with fail
  refine (C _).out.mono ?_
  rintro e w1 ⟨m, rfl, hb1, hM⟩
  have L := hM _ (List.mem_singleton.2 rfl) w1 (Below.refl _ _)
  dsimp only at L
  clear hM
  go_wp2_with fail
  clear L
  refine (N _).out.mono ?_
  rintro e w2 ⟨m2, rfl, hb2, L2⟩
  go_wp2_with fail
  clear L2
  refine (Y _).out.mono ?_
  rintro e w3 ⟨m3, rfl, hb3, L3⟩
  go_wp2
  go_ret2
  exact ⟨rfl, (hb1.trans (hb2.mono hb1.size)).trans (hb3.mono (Nat.le_trans hb1.size hb2.size))⟩

set_option maxRecDepth 100000 in
set_option maxHeartbeats 4000000 in
theorem pbof_bits_1 (op a b c d x y : Int) (s t u : Bool) (w : World) (C : ∀ w, Hid (Calls Try.prog 45 #[.int .i64 1] w (CompOut [(op, .nilFunc)] w))) (Y : ∀ w, Hid (Calls Try.prog 59 #[.int .i64 1] w (FindEff op a b c d x y s t u w))) :
    Calls Try.prog 37 #[.int .i64 op, .int .i64 1] w (BofEff a b c d x y s t u w) := by
  have q0 := run_neq_nil
  go_enter Try.func37, Try.ntmps37
  go_wp2_with fail
  refine (C _).out.mono ?_
  rintro e w1 ⟨m, rfl, hb1, hM⟩
  have L := hM _ (List.mem_singleton.2 rfl) w1 (Below.refl _ _)
  dsimp only at L
  clear hM
  go_wp2_with fail
  clear L
  refine (Y _).out.mono ?_
  rintro e w3 ⟨m3, g, cap, rfl, hb3, L3, hE, hK⟩
  have HK := Lib.hid hK
  have HE := Lib.hid hE
  clear hK hE
  go_wp2
  go_ret2
  exact ⟨g, cap, rfl, hb1.trans (hb3.mono hb1.size), HE.out, HK.out⟩

set_option maxRecDepth 100000 in
set_option maxHeartbeats 4000000 in
theorem pbof_arith_2 (op a b c d x y : Int) (s t u : Bool) (w : World) (C : ∀ w, Hid (Calls Try.prog 45 #[.int .i64 2] w (CompOut [(op, .nilFunc)] w))) (N : ∀ w, Hid (Calls Try.prog 59 #[.int .i64 2] w (FindNo op w))) (Y : ∀ w, Hid (Calls Try.prog 60 #[.int .i64 2] w (FindEff op a b c d x y s t u w))) :
    Calls Try.prog 37 #[.int .i64 op, .int .i64 2] w (BofEff a b c d x y s t u w) := by
  have q0 := run_neq_nil
  go_enter Try.func37, Try.ntmps37
  go_wp2_with fail
  refine (C _).out.mono ?_
  rintro e w1 ⟨m, rfl, hb1, hM⟩
  have L := hM _ (List.mem_singleton.2 rfl) w1 (Below.refl _ _)
  dsimp only at L
  clear hM
  go_wp2_with fail
  clear L
  refine (N _).out.mono ?_
  rintro e w2 ⟨m2, rfl, hb2, L2⟩
  go_wp2_with fail
  clear L2
  refine (Y _).out.mono ?_
  rintro e w3 ⟨m3, g, cap, rfl, hb3, L3, hE, hK⟩
  have HK := Lib.hid hK
  have HE := Lib.hid hE
  clear hK hE
  go_wp2
  go_ret2
  exact ⟨g, cap, rfl, (hb1.trans (hb2.mono hb1.size)).trans (hb3.mono (Nat.le_trans hb1.size hb2.size)), HE.out, HK.out⟩

set_option maxRecDepth 100000 in
set_option maxHeartbeats 4000000 in
theorem pbof_none_2 (op : Int) (w : World) (C : ∀ w, Hid (Calls Try.prog 45 #[.int .i64 2] w (CompOut [(op, .nilFunc)] w))) (N : ∀ w, Hid (Calls Try.prog 59 #[.int .i64 2] w (FindNo op w))) (Y : ∀ w, Hid (Calls Try.prog 60 #[.int .i64 2] w (FindNo op w))) :
    Calls Try.prog 37 #[.int .i64 op, .int .i64 2] w (BofNo w) := by
  have q0 := run_neq_nil
  go_enter Try.func37, Try.ntmps37
  go_wp2_with fail
  refine (C _).out.mono ?_
  rintro e w1 ⟨m, rfl, hb1, hM⟩
  have L := hM _ (List.mem_singleton.2 rfl) w1 (Below.refl _ _)
  dsimp only at L
  clear hM
  go_wp2_with fail
  clear L
  refine (N _).out.mono ?_
  rintro e w2 ⟨m2, rfl, hb2, L2⟩
  go_wp2_with fail
  clear L2
  refine (Y _).out.mono ?_
  rintro e w3 ⟨m3, rfl, hb3, L3⟩
  go_wp2
  go_ret2
  exact ⟨rfl, (hb1.trans (hb2.mono hb1.size)).trans (hb3.mono (Nat.le_trans hb1.size hb2.size))⟩

set_option maxRecDepth 100000 in
set_option maxHeartbeats 4000000 in
theorem pbof_bits_2 (op a b c d x y : Int) (s t u : Bool) (w : World) (C : ∀ w, Hid (Calls Try.prog 45 #[.int .i64 2] w (CompOut [(op, .nilFunc)] w))) (Y : ∀ w, Hid (Calls Try.prog 59 #[.int .i64 2] w (FindEff op a b c d x y s t u w))) :
    Calls Try.prog 37 #[.int .i64 op, .int .i64 2] w (BofEff a b c d x y s t u w) := by
  have q0 := run_neq_nil
  go_enter Try.func37, Try.ntmps37
  go_wp2_with fail
  refine (C _).out.mono ?_
  rintro e w1 ⟨m, rfl, hb1, hM⟩
  have L := hM _ (List.mem_singleton.2 rfl) w1 (Below.refl _ _)
  dsimp only at L
  clear hM
  go_wp2_with fail
  clear L
  refine (Y _).out.mono ?_
  rintro e w3 ⟨m3, g, cap, rfl, hb3, L3, hE, hK⟩
  have HK := Lib.hid hK
  have HE := Lib.hid hE
  clear hK hE
  go_wp2
  go_ret2
  exact ⟨g, cap, rfl, hb1.trans (hb3.mono hb1.size), HE.out, HK.out⟩

set_option maxRecDepth 100000 in
set_option maxHeartbeats 4000000 in
theorem pbof_con (op a b c d x y : Int) (s t u : Bool) (w : World) (C : ∀ w, Hid (Calls Try.prog 45 #[.int .i64 3] w (CompOut [(op, .nilFunc)] w))) (Y : ∀ w, Hid (Calls Try.prog 61 #[] w (FindEff op a b c d x y s t u w))) :
    Calls Try.prog 37 #[.int .i64 op, .int .i64 3] w (BofEff a b c d x y s t u w) := by
  have q0 := run_neq_nil
  go_enter Try.func37, Try.ntmps37
  go_wp2_with fail
  refine (C _).out.mono ?_
  rintro e w1 ⟨m, rfl, hb1, hM⟩
  have L := hM _ (List.mem_singleton.2 rfl) w1 (Below.refl _ _)
  dsimp only at L
  clear hM
  go_wp2_with fail
  clear L
  refine (Y _).out.mono ?_
  rintro e w3 ⟨m3, g, cap, rfl, hb3, L3, hE, hK⟩
  have HK := Lib.hid hK
  have HE := Lib.hid hE
  clear hK hE
  go_wp2
  go_ret2
  exact ⟨g, cap, rfl, hb1.trans (hb3.mono hb1.size), HE.out, HK.out⟩

set_option maxRecDepth 100000 in
set_option maxHeartbeats 4000000 in
theorem pbof_none_3 (op : Int) (w : World) (C : ∀ w, Hid (Calls Try.prog 45 #[.int .i64 3] w (CompOut [(op, .nilFunc)] w))) (Y : ∀ w, Hid (Calls Try.prog 61 #[] w (FindNo op w))) :
    Calls Try.prog 37 #[.int .i64 op, .int .i64 3] w (BofNo w) := by
  have q0 := run_neq_nil
  go_enter Try.func37, Try.ntmps37
  go_wp2_with fail
  refine (C _).out.mono ?_
  rintro e w1 ⟨m, rfl, hb1, hM⟩
  have L := hM _ (List.mem_singleton.2 rfl) w1 (Below.refl _ _)
  dsimp only at L
  clear hM
  go_wp2_with fail
  clear L
  refine (Y _).out.mono ?_
  rintro e w3 ⟨m3, rfl, hb3, L3⟩
  go_wp2
  go_ret2
  exact ⟨rfl, hb1.trans (hb3.mono hb1.size)⟩

set_option maxRecDepth 100000 in
set_option maxHeartbeats 4000000 in
theorem pbof_none (op k : Int) (w : World) (k1 : (k == 1) = false) (k2 : (k == 2) = false) (k3 : (k == 3) = false) (C : ∀ w, Hid (Calls Try.prog 45 #[.int .i64 k] w (CompOut [(op, .nilFunc)] w))) :
    Calls Try.prog 37 #[.int .i64 op, .int .i64 k] w (BofNo w) := by
  have q0 := run_neq_nil
  go_enter Try.func37, Try.ntmps37
  go_wp2_with fail
  refine (C _).out.mono ?_
  rintro e w1 ⟨m, rfl, hb1, hM⟩
  have L := hM _ (List.mem_singleton.2 rfl) w1 (Below.refl _ _)
  dsimp only at L
  clear hM
  go_wp2
  go_ret2
  exact ⟨rfl, hb1⟩

set_option maxRecDepth 100000 in
set_option maxHeartbeats 4000000 in
theorem pbinary_no (op k a b c d : Int) (w : World) (B : ∀ w, Hid (Calls Try.prog 37 #[.int .i64 op, .int .i64 k] w (BofNo w))) :
    Calls Try.prog 21 #[.int .i64 op, .int .i64 k, .agg #[.int .i64 a, .int .i64 b], .agg #[.int .i64 c, .int .i64 d]] w fun e w' => e = .returned (.tuple #[.agg #[.int .i64 0, .int .i64 0, .bool false, .bool false, .bool false], .int .i64 2]) ∧ Below w.heap.size w w' := by
  go_enter Try.func21, Try.ntmps21
  go_wp2_with fail
  have KI : Keeps (w.heap.size) [(w.heap.size, 0, .int .i64 a), (w.heap.size, 1, .int .i64 b), (w.heap.size + 1, 0, .int .i64 c), (w.heap.size + 1, 1, .int .i64 d)] [(w.heap.size + 1 + 1, 0), (w.heap.size + 1 + 1, 1), (w.heap.size + 1 + 1, 2), (w.heap.size + 1 + 1, 3), (w.heap.size + 1 + 1, 4)] w (((w.alloc (.cells #[.int .i64 a, .int .i64 b] 23)).alloc (.cells #[.int .i64 c, .int .i64 d] 23)).alloc (.cells #[.int .i64 0, .int .i64 0, .bool false, .bool false, .bool false] 37)) := by
    refine ⟨?_, ?_, ?_, ?_, by simp; try omega, (((Below.refl _ _).alloc (Nat.le_refl _) _).alloc (by simp) _).alloc (by simp; omega) _⟩
    · simp only [List.forall_mem_cons, List.not_mem_nil, false_imp_iff, implies_true, and_true]
      exact ⟨by go_simp, by go_simp, by go_simp, by go_simp⟩
    · simp only [List.forall_mem_cons, List.not_mem_nil, false_imp_iff, implies_true, and_true]
      exact ⟨valAt_some (by go_simp), valAt_some (by go_simp), valAt_some (by go_simp), valAt_some (by go_simp), valAt_some (by go_simp)⟩
    · simp only [List.forall_mem_cons, List.not_mem_nil, false_imp_iff, implies_true, and_true]
      exact ⟨by go_simp, by go_simp, by go_simp, by go_simp, by go_simp⟩
    · simp only [List.forall_mem_cons, List.not_mem_nil, false_imp_iff, implies_true, and_true]
      exact ⟨by simp; try omega, by simp; try omega, by simp; try omega, by simp; try omega, by simp; try omega⟩
  have KI := Lib.hid KI
  generalize (((w.alloc (.cells #[.int .i64 a, .int .i64 b] 23)).alloc (.cells #[.int .i64 c, .int .i64 d] 23)).alloc (.cells #[.int .i64 0, .int .i64 0, .bool false, .bool false, .bool false] 37)) = W at *
  refine (B _).out.mono ?_
  rintro e w1 ⟨rfl, hb⟩
  have K1 := Lib.hid (KI.out.later hb)
  clear hb KI
  have k0 : w1.cell? ⟨w.heap.size, 0, none⟩ = some (.int .i64 a) := (K1.out).fixed (w.heap.size, 0, .int .i64 a) (by simp)
  have k1 : w1.cell? ⟨w.heap.size, 1, none⟩ = some (.int .i64 b) := (K1.out).fixed (w.heap.size, 1, .int .i64 b) (by simp)
  have k2 : w1.cell? ⟨w.heap.size + 1, 0, none⟩ = some (.int .i64 c) := (K1.out).fixed (w.heap.size + 1, 0, .int .i64 c) (by simp)
  have k3 : w1.cell? ⟨w.heap.size + 1, 1, none⟩ = some (.int .i64 d) := (K1.out).fixed (w.heap.size + 1, 1, .int .i64 d) (by simp)
  have v0 : w1.cell? ⟨w.heap.size + 1 + 1, 0, none⟩ = some (valAt w1 ⟨w.heap.size + 1 + 1, 0, none⟩) := (K1.out).there (w.heap.size + 1 + 1, 0) (by simp)
  have f0 : w1.frozen? ⟨w.heap.size + 1 + 1, 0, none⟩ = false := (K1.out).froz (w.heap.size + 1 + 1, 0) (by simp)
  have v1 : w1.cell? ⟨w.heap.size + 1 + 1, 1, none⟩ = some (valAt w1 ⟨w.heap.size + 1 + 1, 1, none⟩) := (K1.out).there (w.heap.size + 1 + 1, 1) (by simp)
  have f1 : w1.frozen? ⟨w.heap.size + 1 + 1, 1, none⟩ = false := (K1.out).froz (w.heap.size + 1 + 1, 1) (by simp)
  have v2 : w1.cell? ⟨w.heap.size + 1 + 1, 2, none⟩ = some (valAt w1 ⟨w.heap.size + 1 + 1, 2, none⟩) := (K1.out).there (w.heap.size + 1 + 1, 2) (by simp)
  have f2 : w1.frozen? ⟨w.heap.size + 1 + 1, 2, none⟩ = false := (K1.out).froz (w.heap.size + 1 + 1, 2) (by simp)
  have v3 : w1.cell? ⟨w.heap.size + 1 + 1, 3, none⟩ = some (valAt w1 ⟨w.heap.size + 1 + 1, 3, none⟩) := (K1.out).there (w.heap.size + 1 + 1, 3) (by simp)
  have f3 : w1.frozen? ⟨w.heap.size + 1 + 1, 3, none⟩ = false := (K1.out).froz (w.heap.size + 1 + 1, 3) (by simp)
  have v4 : w1.cell? ⟨w.heap.size + 1 + 1, 4, none⟩ = some (valAt w1 ⟨w.heap.size + 1 + 1, 4, none⟩) := (K1.out).there (w.heap.size + 1 + 1, 4) (by simp)
  have f4 : w1.frozen? ⟨w.heap.size + 1 + 1, 4, none⟩ = false := (K1.out).froz (w.heap.size + 1 + 1, 4) (by simp)
  have z0 : w.heap.size + 1 + 1 < w1.heap.size := (K1.out).lt (w.heap.size + 1 + 1, 0) (by simp)
  go_wp2
  have bl := K1.out.bl
  refine bodyPost_ret (v := .tuple #[.agg #[.int .i64 0, .int .i64 0, .bool false, .bool false, .bool false], .int .i64 2]) (by simp [results, Try.results21, go_sem, v0, v1, v2, v3, v4]) rfl ⟨rfl, ?_⟩
  exact ((((bl.setCell (by simp; omega) _).setCell (by simp; omega) _).setCell (by simp; omega) _).setCell (by simp; omega) _).setCell (by simp; omega) _

set_option maxRecDepth 100000 in
set_option maxHeartbeats 4000000 in
theorem pbinary_bad (op k a b c d x y : Int) (s t u : Bool) (w : World) (B : ∀ w, Hid (Calls Try.prog 37 #[.int .i64 op, .int .i64 k] w (BofEff a b c d x y s t u w))) (A : Are2 k a b c d false) :
    Calls Try.prog 21 #[.int .i64 op, .int .i64 k, .agg #[.int .i64 a, .int .i64 b], .agg #[.int .i64 c, .int .i64 d]] w fun e w' => e = .returned (.tuple #[.agg #[.int .i64 0, .int .i64 0, .bool false, .bool false, .bool false], .int .i64 2]) ∧ Below w.heap.size w w' := by
  go_enter Try.func21, Try.ntmps21
  go_wp2_with fail
  have A := Lib.hid A
  have KI : Keeps (w.heap.size) [(w.heap.size, 0, .int .i64 a), (w.heap.size, 1, .int .i64 b), (w.heap.size + 1, 0, .int .i64 c), (w.heap.size + 1, 1, .int .i64 d)] [(w.heap.size + 1 + 1, 0), (w.heap.size + 1 + 1, 1), (w.heap.size + 1 + 1, 2), (w.heap.size + 1 + 1, 3), (w.heap.size + 1 + 1, 4)] w (((w.alloc (.cells #[.int .i64 a, .int .i64 b] 23)).alloc (.cells #[.int .i64 c, .int .i64 d] 23)).alloc (.cells #[.int .i64 0, .int .i64 0, .bool false, .bool false, .bool false] 37)) := by
    refine ⟨?_, ?_, ?_, ?_, by simp; try omega, (((Below.refl _ _).alloc (Nat.le_refl _) _).alloc (by simp) _).alloc (by simp; omega) _⟩
    · simp only [List.forall_mem_cons, List.not_mem_nil, false_imp_iff, implies_true, and_true]
      exact ⟨by go_simp, by go_simp, by go_simp, by go_simp⟩
    · simp only [List.forall_mem_cons, List.not_mem_nil, false_imp_iff, implies_true, and_true]
      exact ⟨valAt_some (by go_simp), valAt_some (by go_simp), valAt_some (by go_simp), valAt_some (by go_simp), valAt_some (by go_simp)⟩
    · simp only [List.forall_mem_cons, List.not_mem_nil, false_imp_iff, implies_true, and_true]
      exact ⟨by go_simp, by go_simp, by go_simp, by go_simp, by go_simp⟩
    · simp only [List.forall_mem_cons, List.not_mem_nil, false_imp_iff, implies_true, and_true]
      exact ⟨by simp; try omega, by simp; try omega, by simp; try omega, by simp; try omega, by simp; try omega⟩
  have KI := Lib.hid KI
  generalize (((w.alloc (.cells #[.int .i64 a, .int .i64 b] 23)).alloc (.cells #[.int .i64 c, .int .i64 d] 23)).alloc (.cells #[.int .i64 0, .int .i64 0, .bool false, .bool false, .bool false] 37)) = W at *
  refine (B _).out.mono ?_
  rintro e w1 ⟨g, cap, rfl, hb, hE, hK⟩
  have K1 := Lib.hid (KI.out.later hb)
  have HK := Lib.hid hK
  have eg : ∀ args w, (callFunc g args).run Try.prog w = .ok (.enter g args) w := hE
  clear hb KI hK hE
  have k0 : w1.cell? ⟨w.heap.size, 0, none⟩ = some (.int .i64 a) := (K1.out).fixed (w.heap.size, 0, .int .i64 a) (by simp)
  have k1 : w1.cell? ⟨w.heap.size, 1, none⟩ = some (.int .i64 b) := (K1.out).fixed (w.heap.size, 1, .int .i64 b) (by simp)
  have k2 : w1.cell? ⟨w.heap.size + 1, 0, none⟩ = some (.int .i64 c) := (K1.out).fixed (w.heap.size + 1, 0, .int .i64 c) (by simp)
  have k3 : w1.cell? ⟨w.heap.size + 1, 1, none⟩ = some (.int .i64 d) := (K1.out).fixed (w.heap.size + 1, 1, .int .i64 d) (by simp)
  have v0 : w1.cell? ⟨w.heap.size + 1 + 1, 0, none⟩ = some (valAt w1 ⟨w.heap.size + 1 + 1, 0, none⟩) := (K1.out).there (w.heap.size + 1 + 1, 0) (by simp)
  have f0 : w1.frozen? ⟨w.heap.size + 1 + 1, 0, none⟩ = false := (K1.out).froz (w.heap.size + 1 + 1, 0) (by simp)
  have v1 : w1.cell? ⟨w.heap.size + 1 + 1, 1, none⟩ = some (valAt w1 ⟨w.heap.size + 1 + 1, 1, none⟩) := (K1.out).there (w.heap.size + 1 + 1, 1) (by simp)
  have f1 : w1.frozen? ⟨w.heap.size + 1 + 1, 1, none⟩ = false := (K1.out).froz (w.heap.size + 1 + 1, 1) (by simp)
  have v2 : w1.cell? ⟨w.heap.size + 1 + 1, 2, none⟩ = some (valAt w1 ⟨w.heap.size + 1 + 1, 2, none⟩) := (K1.out).there (w.heap.size + 1 + 1, 2) (by simp)
  have f2 : w1.frozen? ⟨w.heap.size + 1 + 1, 2, none⟩ = false := (K1.out).froz (w.heap.size + 1 + 1, 2) (by simp)
  have v3 : w1.cell? ⟨w.heap.size + 1 + 1, 3, none⟩ = some (valAt w1 ⟨w.heap.size + 1 + 1, 3, none⟩) := (K1.out).there (w.heap.size + 1 + 1, 3) (by simp)
  have f3 : w1.frozen? ⟨w.heap.size + 1 + 1, 3, none⟩ = false := (K1.out).froz (w.heap.size + 1 + 1, 3) (by simp)
  have v4 : w1.cell? ⟨w.heap.size + 1 + 1, 4, none⟩ = some (valAt w1 ⟨w.heap.size + 1 + 1, 4, none⟩) := (K1.out).there (w.heap.size + 1 + 1, 4) (by simp)
  have f4 : w1.frozen? ⟨w.heap.size + 1 + 1, 4, none⟩ = false := (K1.out).froz (w.heap.size + 1 + 1, 4) (by simp)
  have z0 : w.heap.size + 1 + 1 < w1.heap.size := (K1.out).lt (w.heap.size + 1 + 1, 0) (by simp)
  have y0 : w.heap.size < w1.heap.size := by omega
  have y1 : w.heap.size + 1 < w1.heap.size := by omega
  go_wp2_with fail
  refine (A.out _ _ _ (by simp) (by omega) ⟨by go_simp, by go_simp⟩ ⟨by go_simp, by go_simp⟩).mono ?_
  clear y0 y1 k0 k1 k2 k3 v0 f0 v1 f1 v2 f2 v3 f3 v4 f4 z0
  rintro e w2 ⟨rfl, hb⟩
  have b2 := ((Below.refl w1.heap.size w1).alloc (Nat.le_refl _) _).trans (hb.mono (by simp))
  have K2 := Lib.hid (K1.out.later b2)
  have HK2 := Lib.hid (HK.out.later b2)
  clear hb b2 K1 HK
  have k0 : w2.cell? ⟨w.heap.size, 0, none⟩ = some (.int .i64 a) := (K2.out).fixed (w.heap.size, 0, .int .i64 a) (by simp)
  have k1 : w2.cell? ⟨w.heap.size, 1, none⟩ = some (.int .i64 b) := (K2.out).fixed (w.heap.size, 1, .int .i64 b) (by simp)
  have k2 : w2.cell? ⟨w.heap.size + 1, 0, none⟩ = some (.int .i64 c) := (K2.out).fixed (w.heap.size + 1, 0, .int .i64 c) (by simp)
  have k3 : w2.cell? ⟨w.heap.size + 1, 1, none⟩ = some (.int .i64 d) := (K2.out).fixed (w.heap.size + 1, 1, .int .i64 d) (by simp)
  have v0 : w2.cell? ⟨w.heap.size + 1 + 1, 0, none⟩ = some (valAt w2 ⟨w.heap.size + 1 + 1, 0, none⟩) := (K2.out).there (w.heap.size + 1 + 1, 0) (by simp)
  have f0 : w2.frozen? ⟨w.heap.size + 1 + 1, 0, none⟩ = false := (K2.out).froz (w.heap.size + 1 + 1, 0) (by simp)
  have v1 : w2.cell? ⟨w.heap.size + 1 + 1, 1, none⟩ = some (valAt w2 ⟨w.heap.size + 1 + 1, 1, none⟩) := (K2.out).there (w.heap.size + 1 + 1, 1) (by simp)
  have f1 : w2.frozen? ⟨w.heap.size + 1 + 1, 1, none⟩ = false := (K2.out).froz (w.heap.size + 1 + 1, 1) (by simp)
  have v2 : w2.cell? ⟨w.heap.size + 1 + 1, 2, none⟩ = some (valAt w2 ⟨w.heap.size + 1 + 1, 2, none⟩) := (K2.out).there (w.heap.size + 1 + 1, 2) (by simp)
  have f2 : w2.frozen? ⟨w.heap.size + 1 + 1, 2, none⟩ = false := (K2.out).froz (w.heap.size + 1 + 1, 2) (by simp)
  have v3 : w2.cell? ⟨w.heap.size + 1 + 1, 3, none⟩ = some (valAt w2 ⟨w.heap.size + 1 + 1, 3, none⟩) := (K2.out).there (w.heap.size + 1 + 1, 3) (by simp)
  have f3 : w2.frozen? ⟨w.heap.size + 1 + 1, 3, none⟩ = false := (K2.out).froz (w.heap.size + 1 + 1, 3) (by simp)
  have v4 : w2.cell? ⟨w.heap.size + 1 + 1, 4, none⟩ = some (valAt w2 ⟨w.heap.size + 1 + 1, 4, none⟩) := (K2.out).there (w.heap.size + 1 + 1, 4) (by simp)
  have f4 : w2.frozen? ⟨w.heap.size + 1 + 1, 4, none⟩ = false := (K2.out).froz (w.heap.size + 1 + 1, 4) (by simp)
  have z0 : w.heap.size + 1 + 1 < w2.heap.size := (K2.out).lt (w.heap.size + 1 + 1, 0) (by simp)
  go_wp2
  have bl := K2.out.bl
  refine bodyPost_ret (v := .tuple #[.agg #[.int .i64 0, .int .i64 0, .bool false, .bool false, .bool false], .int .i64 2]) (by simp [results, Try.results21, go_sem, v0, v1, v2, v3, v4]) rfl ⟨rfl, ?_⟩
  exact ((((bl.setCell (by simp; omega) _).setCell (by simp; omega) _).setCell (by simp; omega) _).setCell (by simp; omega) _).setCell (by simp; omega) _

set_option maxRecDepth 100000 in
set_option maxHeartbeats 4000000 in
theorem pbinary_ok (op k a b c d x y : Int) (s t u : Bool) (w : World) (B : ∀ w, Hid (Calls Try.prog 37 #[.int .i64 op, .int .i64 k] w (BofEff a b c d x y s t u w))) (A : Are2 k a b c d true) :
    Calls Try.prog 21 #[.int .i64 op, .int .i64 k, .agg #[.int .i64 a, .int .i64 b], .agg #[.int .i64 c, .int .i64 d]] w fun e w' => e = .returned (.tuple #[.agg #[.int .i64 x, .int .i64 y, .bool s, .bool t, .bool u], .int .i64 0]) ∧ Below w.heap.size w w' := by
  go_enter Try.func21, Try.ntmps21
  go_wp2_with fail
  have A := Lib.hid A
  have KI : Keeps (w.heap.size) [(w.heap.size, 0, .int .i64 a), (w.heap.size, 1, .int .i64 b), (w.heap.size + 1, 0, .int .i64 c), (w.heap.size + 1, 1, .int .i64 d)] [(w.heap.size + 1 + 1, 0), (w.heap.size + 1 + 1, 1), (w.heap.size + 1 + 1, 2), (w.heap.size + 1 + 1, 3), (w.heap.size + 1 + 1, 4)] w (((w.alloc (.cells #[.int .i64 a, .int .i64 b] 23)).alloc (.cells #[.int .i64 c, .int .i64 d] 23)).alloc (.cells #[.int .i64 0, .int .i64 0, .bool false, .bool false, .bool false] 37)) := by
    refine ⟨?_, ?_, ?_, ?_, by simp; try omega, (((Below.refl _ _).alloc (Nat.le_refl _) _).alloc (by simp) _).alloc (by simp; omega) _⟩
    · simp only [List.forall_mem_cons, List.not_mem_nil, false_imp_iff, implies_true, and_true]
      exact ⟨by go_simp, by go_simp, by go_simp, by go_simp⟩
    · simp only [List.forall_mem_cons, List.not_mem_nil, false_imp_iff, implies_true, and_true]
      exact ⟨valAt_some (by go_simp), valAt_some (by go_simp), valAt_some (by go_simp), valAt_some (by go_simp), valAt_some (by go_simp)⟩
    · simp only [List.forall_mem_cons, List.not_mem_nil, false_imp_iff, implies_true, and_true]
      exact ⟨by go_simp, by go_simp, by go_simp, by go_simp, by go_simp⟩
    · simp only [List.forall_mem_cons, List.not_mem_nil, false_imp_iff, implies_true, and_true]
      exact ⟨by simp; try omega, by simp; try omega, by simp; try omega, by simp; try omega, by simp; try omega⟩
  have KI := Lib.hid KI
  generalize (((w.alloc (.cells #[.int .i64 a, .int .i64 b] 23)).alloc (.cells #[.int .i64 c, .int .i64 d] 23)).alloc (.cells #[.int .i64 0, .int .i64 0, .bool false, .bool false, .bool false] 37)) = W at *
  refine (B _).out.mono ?_
  rintro e w1 ⟨g, cap, rfl, hb, hE, hK⟩
  have K1 := Lib.hid (KI.out.later hb)
  have HK := Lib.hid hK
  have eg : ∀ args w, (callFunc g args).run Try.prog w = .ok (.enter g args) w := hE
  clear hb KI hK hE
  have k0 : w1.cell? ⟨w.heap.size, 0, none⟩ = some (.int .i64 a) := (K1.out).fixed (w.heap.size, 0, .int .i64 a) (by simp)
  have k1 : w1.cell? ⟨w.heap.size, 1, none⟩ = some (.int .i64 b) := (K1.out).fixed (w.heap.size, 1, .int .i64 b) (by simp)
  have k2 : w1.cell? ⟨w.heap.size + 1, 0, none⟩ = some (.int .i64 c) := (K1.out).fixed (w.heap.size + 1, 0, .int .i64 c) (by simp)
  have k3 : w1.cell? ⟨w.heap.size + 1, 1, none⟩ = some (.int .i64 d) := (K1.out).fixed (w.heap.size + 1, 1, .int .i64 d) (by simp)
  have v0 : w1.cell? ⟨w.heap.size + 1 + 1, 0, none⟩ = some (valAt w1 ⟨w.heap.size + 1 + 1, 0, none⟩) := (K1.out).there (w.heap.size + 1 + 1, 0) (by simp)
  have f0 : w1.frozen? ⟨w.heap.size + 1 + 1, 0, none⟩ = false := (K1.out).froz (w.heap.size + 1 + 1, 0) (by simp)
  have v1 : w1.cell? ⟨w.heap.size + 1 + 1, 1, none⟩ = some (valAt w1 ⟨w.heap.size + 1 + 1, 1, none⟩) := (K1.out).there (w.heap.size + 1 + 1, 1) (by simp)
  have f1 : w1.frozen? ⟨w.heap.size + 1 + 1, 1, none⟩ = false := (K1.out).froz (w.heap.size + 1 + 1, 1) (by simp)
  have v2 : w1.cell? ⟨w.heap.size + 1 + 1, 2, none⟩ = some (valAt w1 ⟨w.heap.size + 1 + 1, 2, none⟩) := (K1.out).there (w.heap.size + 1 + 1, 2) (by simp)
  have f2 : w1.frozen? ⟨w.heap.size + 1 + 1, 2, none⟩ = false := (K1.out).froz (w.heap.size + 1 + 1, 2) (by simp)
  have v3 : w1.cell? ⟨w.heap.size + 1 + 1, 3, none⟩ = some (valAt w1 ⟨w.heap.size + 1 + 1, 3, none⟩) := (K1.out).there (w.heap.size + 1 + 1, 3) (by simp)
  have f3 : w1.frozen? ⟨w.heap.size + 1 + 1, 3, none⟩ = false := (K1.out).froz (w.heap.size + 1 + 1, 3) (by simp)
  have v4 : w1.cell? ⟨w.heap.size + 1 + 1, 4, none⟩ = some (valAt w1 ⟨w.heap.size + 1 + 1, 4, none⟩) := (K1.out).there (w.heap.size + 1 + 1, 4) (by simp)
  have f4 : w1.frozen? ⟨w.heap.size + 1 + 1, 4, none⟩ = false := (K1.out).froz (w.heap.size + 1 + 1, 4) (by simp)
  have z0 : w.heap.size + 1 + 1 < w1.heap.size := (K1.out).lt (w.heap.size + 1 + 1, 0) (by simp)
  have y0 : w.heap.size < w1.heap.size := by omega
  have y1 : w.heap.size + 1 < w1.heap.size := by omega
  go_wp2_with fail
  refine (A.out _ _ _ (by simp) (by omega) ⟨by go_simp, by go_simp⟩ ⟨by go_simp, by go_simp⟩).mono ?_
  clear y0 y1 k0 k1 k2 k3 v0 f0 v1 f1 v2 f2 v3 f3 v4 f4 z0
  rintro e w2 ⟨rfl, hb⟩
  have b2 := ((Below.refl w1.heap.size w1).alloc (Nat.le_refl _) _).trans (hb.mono (by simp))
  have K2 := Lib.hid (K1.out.later b2)
  have HK2 := Lib.hid (HK.out.later b2)
  clear hb b2 K1 HK
  have k0 : w2.cell? ⟨w.heap.size, 0, none⟩ = some (.int .i64 a) := (K2.out).fixed (w.heap.size, 0, .int .i64 a) (by simp)
  have k1 : w2.cell? ⟨w.heap.size, 1, none⟩ = some (.int .i64 b) := (K2.out).fixed (w.heap.size, 1, .int .i64 b) (by simp)
  have k2 : w2.cell? ⟨w.heap.size + 1, 0, none⟩ = some (.int .i64 c) := (K2.out).fixed (w.heap.size + 1, 0, .int .i64 c) (by simp)
  have k3 : w2.cell? ⟨w.heap.size + 1, 1, none⟩ = some (.int .i64 d) := (K2.out).fixed (w.heap.size + 1, 1, .int .i64 d) (by simp)
  have v0 : w2.cell? ⟨w.heap.size + 1 + 1, 0, none⟩ = some (valAt w2 ⟨w.heap.size + 1 + 1, 0, none⟩) := (K2.out).there (w.heap.size + 1 + 1, 0) (by simp)
  have f0 : w2.frozen? ⟨w.heap.size + 1 + 1, 0, none⟩ = false := (K2.out).froz (w.heap.size + 1 + 1, 0) (by simp)
  have v1 : w2.cell? ⟨w.heap.size + 1 + 1, 1, none⟩ = some (valAt w2 ⟨w.heap.size + 1 + 1, 1, none⟩) := (K2.out).there (w.heap.size + 1 + 1, 1) (by simp)
  have f1 : w2.frozen? ⟨w.heap.size + 1 + 1, 1, none⟩ = false := (K2.out).froz (w.heap.size + 1 + 1, 1) (by simp)
  have v2 : w2.cell? ⟨w.heap.size + 1 + 1, 2, none⟩ = some (valAt w2 ⟨w.heap.size + 1 + 1, 2, none⟩) := (K2.out).there (w.heap.size + 1 + 1, 2) (by simp)
  have f2 : w2.frozen? ⟨w.heap.size + 1 + 1, 2, none⟩ = false := (K2.out).froz (w.heap.size + 1 + 1, 2) (by simp)
  have v3 : w2.cell? ⟨w.heap.size + 1 + 1, 3, none⟩ = some (valAt w2 ⟨w.heap.size + 1 + 1, 3, none⟩) := (K2.out).there (w.heap.size + 1 + 1, 3) (by simp)
  have f3 : w2.frozen? ⟨w.heap.size + 1 + 1, 3, none⟩ = false := (K2.out).froz (w.heap.size + 1 + 1, 3) (by simp)
  have v4 : w2.cell? ⟨w.heap.size + 1 + 1, 4, none⟩ = some (valAt w2 ⟨w.heap.size + 1 + 1, 4, none⟩) := (K2.out).there (w.heap.size + 1 + 1, 4) (by simp)
  have f4 : w2.frozen? ⟨w.heap.size + 1 + 1, 4, none⟩ = false := (K2.out).froz (w.heap.size + 1 + 1, 4) (by simp)
  have z0 : w.heap.size + 1 + 1 < w2.heap.size := (K2.out).lt (w.heap.size + 1 + 1, 0) (by simp)
  go_wp2_with fail
  refine (HK2.out w2 (Below.refl _ _)).mono ?_
  clear k0 k1 k2 k3 v0 f0 v1 f1 v2 f2 v3 f3 v4 f4 z0
  unfold EffV
  rintro e w3 ⟨rfl, hb⟩
  have K3 := Lib.hid (K2.out.later hb)
  clear hb K2 HK2
  have k0 : w3.cell? ⟨w.heap.size, 0, none⟩ = some (.int .i64 a) := (K3.out).fixed (w.heap.size, 0, .int .i64 a) (by simp)
  have k1 : w3.cell? ⟨w.heap.size, 1, none⟩ = some (.int .i64 b) := (K3.out).fixed (w.heap.size, 1, .int .i64 b) (by simp)
  have k2 : w3.cell? ⟨w.heap.size + 1, 0, none⟩ = some (.int .i64 c) := (K3.out).fixed (w.heap.size + 1, 0, .int .i64 c) (by simp)
  have k3 : w3.cell? ⟨w.heap.size + 1, 1, none⟩ = some (.int .i64 d) := (K3.out).fixed (w.heap.size + 1, 1, .int .i64 d) (by simp)
  have v0 : w3.cell? ⟨w.heap.size + 1 + 1, 0, none⟩ = some (valAt w3 ⟨w.heap.size + 1 + 1, 0, none⟩) := (K3.out).there (w.heap.size + 1 + 1, 0) (by simp)
  have f0 : w3.frozen? ⟨w.heap.size + 1 + 1, 0, none⟩ = false := (K3.out).froz (w.heap.size + 1 + 1, 0) (by simp)
  have v1 : w3.cell? ⟨w.heap.size + 1 + 1, 1, none⟩ = some (valAt w3 ⟨w.heap.size + 1 + 1, 1, none⟩) := (K3.out).there (w.heap.size + 1 + 1, 1) (by simp)
  have f1 : w3.frozen? ⟨w.heap.size + 1 + 1, 1, none⟩ = false := (K3.out).froz (w.heap.size + 1 + 1, 1) (by simp)
  have v2 : w3.cell? ⟨w.heap.size + 1 + 1, 2, none⟩ = some (valAt w3 ⟨w.heap.size + 1 + 1, 2, none⟩) := (K3.out).there (w.heap.size + 1 + 1, 2) (by simp)
  have f2 : w3.frozen? ⟨w.heap.size + 1 + 1, 2, none⟩ = false := (K3.out).froz (w.heap.size + 1 + 1, 2) (by simp)
  have v3 : w3.cell? ⟨w.heap.size + 1 + 1, 3, none⟩ = some (valAt w3 ⟨w.heap.size + 1 + 1, 3, none⟩) := (K3.out).there (w.heap.size + 1 + 1, 3) (by simp)
  have f3 : w3.frozen? ⟨w.heap.size + 1 + 1, 3, none⟩ = false := (K3.out).froz (w.heap.size + 1 + 1, 3) (by simp)
  have v4 : w3.cell? ⟨w.heap.size + 1 + 1, 4, none⟩ = some (valAt w3 ⟨w.heap.size + 1 + 1, 4, none⟩) := (K3.out).there (w.heap.size + 1 + 1, 4) (by simp)
  have f4 : w3.frozen? ⟨w.heap.size + 1 + 1, 4, none⟩ = false := (K3.out).froz (w.heap.size + 1 + 1, 4) (by simp)
  have z0 : w.heap.size + 1 + 1 < w3.heap.size := (K3.out).lt (w.heap.size + 1 + 1, 0) (by simp)
  go_wp2
  have bl := K3.out.bl
  refine bodyPost_ret (v := .tuple #[.agg #[.int .i64 x, .int .i64 y, .bool s, .bool t, .bool u], .int .i64 0]) (by simp [results, Try.results21, go_sem, v0, v1, v2, v3, v4]) rfl ⟨rfl, ?_⟩
  exact ((((bl.setCell (by simp; omega) _).setCell (by simp; omega) _).setCell (by simp; omega) _).setCell (by simp; omega) _).setCell (by simp; omega) _

end Go.Proofs.Ytgkhldbnljdeiaa

/- binaryOf and Binary of layer 4 where the ranges are not fit: all that is asked of the maps is that they answer. -/
namespace Go.Proofs.Ytgkhldbnljdeiaa
open Go.RowKit RangesMath
attribute [local go_sem] World.setCell_self

/-- A map of operators answers op by some function. -/
def FindSome (op : Int) (w : World) (e : Ending) (w' : World) : Prop := ∃ m g cap, e = .returned m ∧ Below w.heap.size w w' ∧ (Instr.lookup 100 m (.int .i64 op) true).run Try.prog w' = .ok (.tuple #[.func (.func g) #[] cap, .bool true]) w'
def BofSome (w : World) (e : Ending) (w' : World) : Prop := ∃ g cap, e = .returned (.tuple #[.func (.func g) #[] cap, .bool true]) ∧ Below w.heap.size w w'

set_option maxRecDepth 100000 in
set_option maxHeartbeats 4000000 in
theorem pbof_arith_some_1 (op : Int) (w : World) (C : ∀ w, Hid (Calls Try.prog 45 #[.int .i64 1] w (CompOut [(op, .nilFunc)] w))) (N : ∀ w, Hid (Calls Try.prog 59 #[.int .i64 1] w (FindNo op w))) (Y : ∀ w, Hid (Calls Try.prog 60 #[.int .i64 1] w (FindSome op w))) :
    Calls Try.prog 37 #[.int .i64 op, .int .i64 1] w (BofSome w) := by
  have q0 := run_neq_nil
  go_enter Try.func37, Try.ntmps37
  go_wp2_with fail
  refine (C _).out.mono ?_
  rintro e w1 ⟨m, rfl, hb1, hM⟩
  have L := hM _ (List.mem_singleton.2 rfl) w1 (Below.refl _ _)
  dsimp only at L
  clear hM
  go_wp2_with fail
  clear L
  refine (N _).out.mono ?_
  rintro e w2 ⟨m2, rfl, hb2, L2⟩
  go_wp2_with fail
  clear L2
  refine (Y _).out.mono ?_
  rintro e w3 ⟨m3, g, cap, rfl, hb3, L3⟩
  go_wp2
  go_ret2
  exact ⟨g, cap, rfl, (hb1.trans (hb2.mono hb1.size)).trans (hb3.mono (Nat.le_trans hb1.size hb2.size))⟩

set_option maxRecDepth 100000 in
set_option maxHeartbeats 4000000 in
theorem pbof_bits_some_1 (op : Int) (w : World) (C : ∀ w, Hid (Calls Try.prog 45 #[.int .i64 1] w (CompOut [(op, .nilFunc)] w))) (Y : ∀ w, Hid (Calls Try.prog 59 #[.int .i64 1] w (FindSome op w))) :
    Calls Try.prog 37 #[.int .i64 op, .int .i64 1] w (BofSome w) := by
  have q0 := run_neq_nil
  go_enter Try.func37, Try.ntmps37
  go_wp2_with fail
  refine (C _).out.mono ?_
  rintro e w1 ⟨m, rfl, hb1, hM⟩
  have L := hM _ (List.mem_singleton.2 rfl) w1 (Below.refl _ _)
  dsimp only at L
  clear hM
  go_wp2_with fail
  clear L
  refine (Y _).out.mono ?_
  rintro e w3 ⟨m3, g, cap, rfl, hb3, L3⟩
  go_wp2
  go_ret2
  exact ⟨g, cap, rfl, hb1.trans (hb3.mono hb1.size)⟩

set_option maxRecDepth 100000 in
set_option maxHeartbeats 4000000 in
theorem pbof_arith_some_2 (op : Int) (w : World) (C : ∀ w, Hid (Calls Try.prog 45 #[.int .i64 2] w (CompOut [(op, .nilFunc)] w))) (N : ∀ w, Hid (Calls Try.prog 59 #[.int .i64 2] w (FindNo op w))) (Y : ∀ w, Hid (Calls Try.prog 60 #[.int .i64 2] w (FindSome op w))) :
    Calls Try.prog 37 #[.int .i64 op, .int .i64 2] w (BofSome w) := by
  have q0 := run_neq_nil
  go_enter Try.func37, Try.ntmps37
  go_wp2_with fail
  refine (C _).out.mono ?_
  rintro e w1 ⟨m, rfl, hb1, hM⟩
  have L := hM _ (List.mem_singleton.2 rfl) w1 (Below.refl _ _)
  dsimp only at L
  clear hM
  go_wp2_with fail
  clear L
  refine (N _).out.mono ?_
  rintro e w2 ⟨m2, rfl, hb2, L2⟩
  go_wp2_with fail
  clear L2
  refine (Y _).out.mono ?_
  rintro e w3 ⟨m3, g, cap, rfl, hb3, L3⟩
  go_wp2
  go_ret2
  exact ⟨g, cap, rfl, (hb1.trans (hb2.mono hb1.size)).trans (hb3.mono (Nat.le_trans hb1.size hb2.size))⟩

set_option maxRecDepth 100000 in
set_option maxHeartbeats 4000000 in
theorem pbof_bits_some_2 (op : Int) (w : World) (C : ∀ w, Hid (Calls Try.prog 45 #[.int .i64 2] w (CompOut [(op, .nilFunc)] w))) (Y : ∀ w, Hid (Calls Try.prog 59 #[.int .i64 2] w (FindSome op w))) :
    Calls Try.prog 37 #[.int .i64 op, .int .i64 2] w (BofSome w) := by
  have q0 := run_neq_nil
  go_enter Try.func37, Try.ntmps37
  go_wp2_with fail
  refine (C _).out.mono ?_
  rintro e w1 ⟨m, rfl, hb1, hM⟩
  have L := hM _ (List.mem_singleton.2 rfl) w1 (Below.refl _ _)
  dsimp only at L
  clear hM
  go_wp2_with fail
  clear L
  refine (Y _).out.mono ?_
  rintro e w3 ⟨m3, g, cap, rfl, hb3, L3⟩
  go_wp2
  go_ret2
  exact ⟨g, cap, rfl, hb1.trans (hb3.mono hb1.size)⟩

set_option maxRecDepth 100000 in
set_option maxHeartbeats 4000000 in
theorem pbof_con_some (op : Int) (w : World) (C : ∀ w, Hid (Calls Try.prog 45 #[.int .i64 3] w (CompOut [(op, .nilFunc)] w))) (Y : ∀ w, Hid (Calls Try.prog 61 #[] w (FindSome op w))) :
    Calls Try.prog 37 #[.int .i64 op, .int .i64 3] w (BofSome w) := by
  have q0 := run_neq_nil
  go_enter Try.func37, Try.ntmps37
  go_wp2_with fail
  refine (C _).out.mono ?_
  rintro e w1 ⟨m, rfl, hb1, hM⟩
  have L := hM _ (List.mem_singleton.2 rfl) w1 (Below.refl _ _)
  dsimp only at L
  clear hM
  go_wp2_with fail
  clear L
  refine (Y _).out.mono ?_
  rintro e w3 ⟨m3, g, cap, rfl, hb3, L3⟩
  go_wp2
  go_ret2
  exact ⟨g, cap, rfl, hb1.trans (hb3.mono hb1.size)⟩

set_option maxRecDepth 100000 in
set_option maxHeartbeats 4000000 in
theorem pbinary_unfit (op k a b c d : Int) (w : World) (B : ∀ w, Hid (Calls Try.prog 37 #[.int .i64 op, .int .i64 k] w (BofSome w))) (A : Are2 k a b c d false) :
    Calls Try.prog 21 #[.int .i64 op, .int .i64 k, .agg #[.int .i64 a, .int .i64 b], .agg #[.int .i64 c, .int .i64 d]] w fun e w' => e = .returned (.tuple #[.agg #[.int .i64 0, .int .i64 0, .bool false, .bool false, .bool false], .int .i64 2]) ∧ Below w.heap.size w w' := by
  go_enter Try.func21, Try.ntmps21
  go_wp2_with fail
  have A := Lib.hid A
  have KI : Keeps (w.heap.size) [(w.heap.size, 0, .int .i64 a), (w.heap.size, 1, .int .i64 b), (w.heap.size + 1, 0, .int .i64 c), (w.heap.size + 1, 1, .int .i64 d)] [(w.heap.size + 1 + 1, 0), (w.heap.size + 1 + 1, 1), (w.heap.size + 1 + 1, 2), (w.heap.size + 1 + 1, 3), (w.heap.size + 1 + 1, 4)] w (((w.alloc (.cells #[.int .i64 a, .int .i64 b] 23)).alloc (.cells #[.int .i64 c, .int .i64 d] 23)).alloc (.cells #[.int .i64 0, .int .i64 0, .bool false, .bool false, .bool false] 37)) := by
    refine ⟨?_, ?_, ?_, ?_, by simp; try omega, (((Below.refl _ _).alloc (Nat.le_refl _) _).alloc (by simp) _).alloc (by simp; omega) _⟩
    · simp only [List.forall_mem_cons, List.not_mem_nil, false_imp_iff, implies_true, and_true]
      exact ⟨by go_simp, by go_simp, by go_simp, by go_simp⟩
    · simp only [List.forall_mem_cons, List.not_mem_nil, false_imp_iff, implies_true, and_true]
      exact ⟨valAt_some (by go_simp), valAt_some (by go_simp), valAt_some (by go_simp), valAt_some (by go_simp), valAt_some (by go_simp)⟩
    · simp only [List.forall_mem_cons, List.not_mem_nil, false_imp_iff, implies_true, and_true]
      exact ⟨by go_simp, by go_simp, by go_simp, by go_simp, by go_simp⟩
    · simp only [List.forall_mem_cons, List.not_mem_nil, false_imp_iff, implies_true, and_true]
      exact ⟨by simp; try omega, by simp; try omega, by simp; try omega, by simp; try omega, by simp; try omega⟩
  have KI := Lib.hid KI
  generalize (((w.alloc (.cells #[.int .i64 a, .int .i64 b] 23)).alloc (.cells #[.int .i64 c, .int .i64 d] 23)).alloc (.cells #[.int .i64 0, .int .i64 0, .bool false, .bool false, .bool false] 37)) = W at *
  refine (B _).out.mono ?_
  rintro e w1 ⟨g, cap, rfl, hb⟩
  have K1 := Lib.hid (KI.out.later hb)
  clear hb KI
  have k0 : w1.cell? ⟨w.heap.size, 0, none⟩ = some (.int .i64 a) := (K1.out).fixed (w.heap.size, 0, .int .i64 a) (by simp)
  have k1 : w1.cell? ⟨w.heap.size, 1, none⟩ = some (.int .i64 b) := (K1.out).fixed (w.heap.size, 1, .int .i64 b) (by simp)
  have k2 : w1.cell? ⟨w.heap.size + 1, 0, none⟩ = some (.int .i64 c) := (K1.out).fixed (w.heap.size + 1, 0, .int .i64 c) (by simp)
  have k3 : w1.cell? ⟨w.heap.size + 1, 1, none⟩ = some (.int .i64 d) := (K1.out).fixed (w.heap.size + 1, 1, .int .i64 d) (by simp)
  have v0 : w1.cell? ⟨w.heap.size + 1 + 1, 0, none⟩ = some (valAt w1 ⟨w.heap.size + 1 + 1, 0, none⟩) := (K1.out).there (w.heap.size + 1 + 1, 0) (by simp)
  have f0 : w1.frozen? ⟨w.heap.size + 1 + 1, 0, none⟩ = false := (K1.out).froz (w.heap.size + 1 + 1, 0) (by simp)
  have v1 : w1.cell? ⟨w.heap.size + 1 + 1, 1, none⟩ = some (valAt w1 ⟨w.heap.size + 1 + 1, 1, none⟩) := (K1.out).there (w.heap.size + 1 + 1, 1) (by simp)
  have f1 : w1.frozen? ⟨w.heap.size + 1 + 1, 1, none⟩ = false := (K1.out).froz (w.heap.size + 1 + 1, 1) (by simp)
  have v2 : w1.cell? ⟨w.heap.size + 1 + 1, 2, none⟩ = some (valAt w1 ⟨w.heap.size + 1 + 1, 2, none⟩) := (K1.out).there (w.heap.size + 1 + 1, 2) (by simp)
  have f2 : w1.frozen? ⟨w.heap.size + 1 + 1, 2, none⟩ = false := (K1.out).froz (w.heap.size + 1 + 1, 2) (by simp)
  have v3 : w1.cell? ⟨w.heap.size + 1 + 1, 3, none⟩ = some (valAt w1 ⟨w.heap.size + 1 + 1, 3, none⟩) := (K1.out).there (w.heap.size + 1 + 1, 3) (by simp)
  have f3 : w1.frozen? ⟨w.heap.size + 1 + 1, 3, none⟩ = false := (K1.out).froz (w.heap.size + 1 + 1, 3) (by simp)
  have v4 : w1.cell? ⟨w.heap.size + 1 + 1, 4, none⟩ = some (valAt w1 ⟨w.heap.size + 1 + 1, 4, none⟩) := (K1.out).there (w.heap.size + 1 + 1, 4) (by simp)
  have f4 : w1.frozen? ⟨w.heap.size + 1 + 1, 4, none⟩ = false := (K1.out).froz (w.heap.size + 1 + 1, 4) (by simp)
  have z0 : w.heap.size + 1 + 1 < w1.heap.size := (K1.out).lt (w.heap.size + 1 + 1, 0) (by simp)
  have y0 : w.heap.size < w1.heap.size := by omega
  have y1 : w.heap.size + 1 < w1.heap.size := by omega
  go_wp2_with fail
  refine (A.out _ _ _ (by simp) (by omega) ⟨by go_simp, by go_simp⟩ ⟨by go_simp, by go_simp⟩).mono ?_
  clear y0 y1 k0 k1 k2 k3 v0 f0 v1 f1 v2 f2 v3 f3 v4 f4 z0
  rintro e w2 ⟨rfl, hb⟩
  have b2 := ((Below.refl w1.heap.size w1).alloc (Nat.le_refl _) _).trans (hb.mono (by simp))
  have K2 := Lib.hid (K1.out.later b2)
  clear hb b2 K1
  have k0 : w2.cell? ⟨w.heap.size, 0, none⟩ = some (.int .i64 a) := (K2.out).fixed (w.heap.size, 0, .int .i64 a) (by simp)
  have k1 : w2.cell? ⟨w.heap.size, 1, none⟩ = some (.int .i64 b) := (K2.out).fixed (w.heap.size, 1, .int .i64 b) (by simp)
  have k2 : w2.cell? ⟨w.heap.size + 1, 0, none⟩ = some (.int .i64 c) := (K2.out).fixed (w.heap.size + 1, 0, .int .i64 c) (by simp)
  have k3 : w2.cell? ⟨w.heap.size + 1, 1, none⟩ = some (.int .i64 d) := (K2.out).fixed (w.heap.size + 1, 1, .int .i64 d) (by simp)
  have v0 : w2.cell? ⟨w.heap.size + 1 + 1, 0, none⟩ = some (valAt w2 ⟨w.heap.size + 1 + 1, 0, none⟩) := (K2.out).there (w.heap.size + 1 + 1, 0) (by simp)
  have f0 : w2.frozen? ⟨w.heap.size + 1 + 1, 0, none⟩ = false := (K2.out).froz (w.heap.size + 1 + 1, 0) (by simp)
  have v1 : w2.cell? ⟨w.heap.size + 1 + 1, 1, none⟩ = some (valAt w2 ⟨w.heap.size + 1 + 1, 1, none⟩) := (K2.out).there (w.heap.size + 1 + 1, 1) (by simp)
  have f1 : w2.frozen? ⟨w.heap.size + 1 + 1, 1, none⟩ = false := (K2.out).froz (w.heap.size + 1 + 1, 1) (by simp)
  have v2 : w2.cell? ⟨w.heap.size + 1 + 1, 2, none⟩ = some (valAt w2 ⟨w.heap.size + 1 + 1, 2, none⟩) := (K2.out).there (w.heap.size + 1 + 1, 2) (by simp)
  have f2 : w2.frozen? ⟨w.heap.size + 1 + 1, 2, none⟩ = false := (K2.out).froz (w.heap.size + 1 + 1, 2) (by simp)
  have v3 : w2.cell? ⟨w.heap.size + 1 + 1, 3, none⟩ = some (valAt w2 ⟨w.heap.size + 1 + 1, 3, none⟩) := (K2.out).there (w.heap.size + 1 + 1, 3) (by simp)
  have f3 : w2.frozen? ⟨w.heap.size + 1 + 1, 3, none⟩ = false := (K2.out).froz (w.heap.size + 1 + 1, 3) (by simp)
  have v4 : w2.cell? ⟨w.heap.size + 1 + 1, 4, none⟩ = some (valAt w2 ⟨w.heap.size + 1 + 1, 4, none⟩) := (K2.out).there (w.heap.size + 1 + 1, 4) (by simp)
  have f4 : w2.frozen? ⟨w.heap.size + 1 + 1, 4, none⟩ = false := (K2.out).froz (w.heap.size + 1 + 1, 4) (by simp)
  have z0 : w.heap.size + 1 + 1 < w2.heap.size := (K2.out).lt (w.heap.size + 1 + 1, 0) (by simp)
  go_wp2
  have bl := K2.out.bl
  refine bodyPost_ret (v := .tuple #[.agg #[.int .i64 0, .int .i64 0, .bool false, .bool false, .bool false], .int .i64 2]) (by simp [results, Try.results21, go_sem, v0, v1, v2, v3, v4]) rfl ⟨rfl, ?_⟩
  exact ((((bl.setCell (by simp; omega) _).setCell (by simp; omega) _).setCell (by simp; omega) _).setCell (by simp; omega) _).setCell (by simp; omega) _

end Go.Proofs.Ytgkhldbnljdeiaa

/- What the maps of operators of layer 4 answer; Binary at the examples. -/
namespace Go.Proofs.Ytgkhldbnljdeiaa
open Go.RowKit RangesMath Go.MapKept

theorem zero_op (w : World) : (zeroValue 72).run Try.prog w = .ok .nilFunc w := by kernel_rfl
theorem find_arith (n : Nat) (op : Int) (h : op < 1 ∨ 7 < op) : Instr.findNow (.int .i64) (.int .i64 op) (arithmeticEs n).toList 0 = some none := by
  have e1 : (op == 1) = false := by simp; omega
  have e2 : (op == 2) = false := by simp; omega
  have e3 : (op == 3) = false := by simp; omega
  have e4 : (op == 4) = false := by simp; omega
  have e5 : (op == 5) = false := by simp; omega
  have e6 : (op == 6) = false := by simp; omega
  have e7 : (op == 7) = false := by simp; omega
  simp only [arithmeticEs, Instr.findNow, Instr.sameNow, if_true]
  rw [e1, e2, e3, e4, e5, e6, e7]
theorem find_bits (n : Nat) (op : Int) (h : op < 8 ∨ 10 < op) : Instr.findNow (.int .i64) (.int .i64 op) (bitwiseEs n).toList 0 = some none := by
  have e1 : (op == 8) = false := by simp; omega
  have e2 : (op == 9) = false := by simp; omega
  have e3 : (op == 10) = false := by simp; omega
  simp only [bitwiseEs, Instr.findNow, Instr.sameNow, if_true]
  rw [e1, e2, e3]
theorem arith_no (k op : Int) (h : op < 1 ∨ 7 < op) (w : World) : Calls Try.prog 60 #[.int .i64 k] w (FindNo op w) := by
  refine (parithmetic k w).mono ?_
  rintro e w' ⟨b, rfl, hb, _, _, _, hB⟩
  exact ⟨_, rfl, hB, run_look_none Try.underlying100 Try.underlying3 hb (find_arith _ op h) (zero_op w') true⟩
theorem bits_no (k op : Int) (h : op < 8 ∨ 10 < op) (w : World) : Calls Try.prog 59 #[.int .i64 k] w (FindNo op w) := by
  refine (pbitwise k w).mono ?_
  rintro e w' ⟨b, rfl, hb, _, _, _, hB⟩
  exact ⟨_, rfl, hB, run_look_none Try.underlying100 Try.underlying3 hb (find_bits _ op h) (zero_op w') true⟩

/-- A closure that has captured its kind makes this effect. -/
def MakesAt (g : Nat) (k a b c d x y : Int) (s t u : Bool) : Prop := ∀ (kb : Nat) (w : World), kb < w.heap.size → w.cell? ⟨kb, 0, none⟩ = some (.int .i64 k) →
  Calls Try.prog g #[.agg #[.int .i64 a, .int .i64 b], .agg #[.int .i64 c, .int .i64 d], .pointer (some ⟨kb, 0, none⟩)] w fun e w' => e = .returned (EffV x y s t u) ∧ Below w.heap.size w w'
theorem arith_eff (op k a b c d x y : Int) (s t u : Bool) (g i : Nat) (hf : ∀ n, Instr.findNow (.int .i64) (.int .i64 op) (arithmeticEs n).toList 0 = some (some (i, .func (.func g) #[] #[.pointer (some ⟨n, 0, none⟩)]))) (hE : Enters g) (hM : MakesAt g k a b c d x y s t u) (w : World) :
    Calls Try.prog 60 #[.int .i64 k] w (FindEff op a b c d x y s t u w) := by
  refine (parithmetic k w).mono ?_
  rintro e w' ⟨b', rfl, hb, hl, hk, hz, hB⟩
  refine ⟨_, g, _, rfl, hB, run_look Try.underlying100 Try.underlying3 hb (hf _) true, hE, ?_⟩
  intro w2 h2
  exact hM w.heap.size w2 (Nat.lt_of_lt_of_le hz h2.size) ((h2.cell (p := ⟨w.heap.size, 0, none⟩) hz).trans hk)
theorem arith_eff3 (k a b c d x y : Int) (s t u : Bool) (hM : ∀ w, Calls Try.prog 96 #[.agg #[.int .i64 a, .int .i64 b], .agg #[.int .i64 c, .int .i64 d]] w fun e w' => e = .returned (EffV x y s t u) ∧ Below w.heap.size w w') (hE : Enters 96) (w : World) :
    Calls Try.prog 60 #[.int .i64 k] w (FindEff 3 a b c d x y s t u w) := by
  refine (parithmetic k w).mono ?_
  rintro e w' ⟨b', rfl, hb, hl, hk, hz, hB⟩
  refine ⟨_, 96, #[], rfl, hB, run_look (i := 2) Try.underlying100 Try.underlying3 hb rfl true, hE, ?_⟩
  intro w2 h2
  exact hM w2

theorem ent_a1 : Enters 89 := fun _ _ => by kernel_rfl
theorem ent_a2 : Enters 92 := fun _ _ => by kernel_rfl
theorem ent_a3 : Enters 96 := fun _ _ => by kernel_rfl
theorem ent_a4 : Enters 98 := fun _ _ => by kernel_rfl
theorem ent_a5 : Enters 100 := fun _ _ => by kernel_rfl
theorem ent_sum : ∀ args w, (callFunc 99 args).run Try.prog w = .ok (.enter 99 args) w := fun _ _ => by kernel_rfl
theorem ent_difference : ∀ args w, (callFunc 52 args).run Try.prog w = .ok (.enter 52 args) w := fun _ _ => by kernel_rfl
theorem ent_product : ∀ args w, (callFunc 91 args).run Try.prog w = .ok (.enter 91 args) w := fun _ _ => by kernel_rfl
theorem ent_quotient : ∀ args w, (callFunc 94 args).run Try.prog w = .ok (.enter 94 args) w := fun _ _ => by kernel_rfl

/-- Binary, where the kind has numbers and the operator is one of arithmetic: from what its closure makes. -/
theorem binary_arith (op k a b c d x y : Int) (s t u : Bool) (hk : k = 1 ∨ k = 2) (ho : 1 ≤ op ∧ op ≤ 7) (F : ∀ w, Calls Try.prog 60 #[.int .i64 k] w (FindEff op a b c d x y s t u w)) (h1 : okB k a b = true) (h2 : okB k c d = true) (w : World) :
    Calls Try.prog 21 #[.int .i64 op, .int .i64 k, .agg #[.int .i64 a, .int .i64 b], .agg #[.int .i64 c, .int .i64 d]] w fun e w' => e = .returned (.tuple #[.agg #[.int .i64 x, .int .i64 y, .bool s, .bool t, .bool u], .int .i64 0]) ∧ Below w.heap.size w w' := by
  have A := are2_any k a b c d
  rw [h1, h2] at A
  have hn : narV k op = .nilFunc := nar_no (by simp only [cmpOK, Bool.and_eq_false_iff, decide_eq_false_iff_not]; omega)
  have C : ∀ w, Hid (Calls Try.prog 45 #[.int .i64 k] w (CompOut [(op, .nilFunc)] w)) := by
    intro w
    have C := pcomp_any k [op] w
    simp only [List.map_cons, List.map_nil, hn] at C
    exact Lib.hid C
  refine pbinary_ok op k a b c d x y s t u w (fun w => Lib.hid ?_) A
  rcases hk with rfl | rfl
  · exact pbof_arith_1 op a b c d x y s t u w C (fun w => Lib.hid (bits_no 1 op (by omega) w)) (fun w => Lib.hid (F w))
  · exact pbof_arith_2 op a b c d x y s t u w C (fun w => Lib.hid (bits_no 2 op (by omega) w)) (fun w => Lib.hid (F w))

theorem sum_fn (ps : List Pr) (h : ∀ p ∈ ps, -9223372036854775808 ≤ p.a ∧ p.b ≤ 9223372036854775807 ∧ -9223372036854775808 ≤ p.c ∧ p.d ≤ 9223372036854775807 ∧ p.a ≤ p.b ∧ p.c ≤ p.d) : NumFn 99 (fun x y => x + y) ps := by
  intro p hp u hu z hz w
  obtain ⟨h1, h2, h3, h4, h5, h6⟩ := h p hp
  exact psum u z w (by omega) (by omega) (by omega) (by omega)
theorem difference_fn (ps : List Pr) (h : ∀ p ∈ ps, -9223372036854775808 ≤ p.a ∧ p.b ≤ 9223372036854775807 ∧ -9223372036854775808 ≤ p.c ∧ p.d ≤ 9223372036854775807 ∧ p.a ≤ p.b ∧ p.c ≤ p.d) : NumFn 52 (fun x y => x - y) ps := by
  intro p hp u hu z hz w
  obtain ⟨h1, h2, h3, h4, h5, h6⟩ := h p hp
  exact pdifference u z w (by omega) (by omega) (by omega) (by omega)
theorem product_fn (ps : List Pr) (h : ∀ p ∈ ps, -9223372036854775808 ≤ p.a ∧ p.b ≤ 9223372036854775807 ∧ -9223372036854775808 ≤ p.c ∧ p.d ≤ 9223372036854775807 ∧ p.a ≤ p.b ∧ p.c ≤ p.d) : NumFn 91 (fun x y => x * y) ps := by
  intro p hp u hu z hz w
  obtain ⟨h1, h2, h3, h4, h5, h6⟩ := h p hp
  exact pproduct u z w (by omega) (by omega) (by omega) (by omega)
theorem quotient_fn (ps : List Pr) (h : ∀ p ∈ ps, ∀ u, (u = p.a ∨ u = p.b) → ∀ z, (z = p.c ∨ z = p.d) → ¬ z = 0 ∧ -9223372036854775808 ≤ u.tdiv z ∧ u.tdiv z ≤ 9223372036854775807) : NumFn 94 (fun x y => x.tdiv y) ps := by
  intro p hp u hu z hz w
  obtain ⟨h1, h2, h3⟩ := h p hp u hu z hz
  exact pquotient u z _ w h2 h3 h1 rfl

end Go.Proofs.Ytgkhldbnljdeiaa

/- Quotients and remainders of layer 4, for all ranges: what divisible, sizes, remainders and divided return. -/
namespace Go.Proofs.Ytgkhldbnljdeiaa
open Go.RowKit RangesMath Go.MapKept

/-- The pairs that have a quotient, in three parts. -/
def divL (a b c d : Int) : List Pr :=
  optS (comS a b (-9223372036854775808) 9223372036854775807).2.2 (comS c d (-9223372036854775808) (-2)).2.2 ⟨(comS a b (-9223372036854775808) 9223372036854775807).1, (comS a b (-9223372036854775808) 9223372036854775807).2.1, (comS c d (-9223372036854775808) (-2)).1, (comS c d (-9223372036854775808) (-2)).2.1⟩ ++
  optS (comS a b (-9223372036854775807) 9223372036854775807).2.2 (comS c d (-1) (-1)).2.2 ⟨(comS a b (-9223372036854775807) 9223372036854775807).1, (comS a b (-9223372036854775807) 9223372036854775807).2.1, (comS c d (-1) (-1)).1, (comS c d (-1) (-1)).2.1⟩ ++
  optS (comS a b (-9223372036854775808) 9223372036854775807).2.2 (comS c d 1 9223372036854775807).2.2 ⟨(comS a b (-9223372036854775808) 9223372036854775807).1, (comS a b (-9223372036854775808) 9223372036854775807).2.1, (comS c d 1 9223372036854775807).1, (comS c d 1 9223372036854775807).2.1⟩
theorem com_any (a b c d : Int) : Com a b c d (comS a b c d).1 (comS a b c d).2.1 (comS a b c d).2.2 := fun w => Lib.hid (pcommon_any a b c d w)
theorem pdivisible (a b c d : Int) : DivOut a b c d (divL a b c d) := fun w => Lib.hid (pdivisible_walk a b c d _ _ _ _ _ _ _ _ _ _ _ _ _ _ _ _ _ _ w (com_any _ _ _ _) (com_any _ _ _ _) (com_any _ _ _ _) (com_any _ _ _ _) (com_any _ _ _ _) (com_any _ _ _ _))
theorem divL_len (a b c d : Int) : (divL a b c d).length ≤ 3 := by
  unfold divL optS
  simp only [List.length_append]
  split <;> split <;> split <;> simp

theorem divcalc_some {a b c d k x y : Int} {f : Nat} {ps : List Pr} (D : DivOut a b c d ps) (h : 0 < ps.length) (C : CalcOK k f ps x y) (w : World) : Calls Try.prog 95 #[.agg #[.int .i64 a, .int .i64 b], .agg #[.int .i64 c, .int .i64 d]] w (DivCalc k f x y true w) := by
  refine (D w).out.mono ?_
  rintro e w' ⟨v, rfl, hown, hB⟩
  obtain ⟨o, cap, rfl, hcap, hform⟩ := owns_form hown
  obtain ⟨g, rfl, _, hg, hcell⟩ := hform.resolve_left (by omega)
  exact ⟨_, rfl, hB, C g cap w' hg hcap hcell⟩
theorem divcalc_none {a b c d k : Int} {f : Nat} (D : DivOut a b c d []) (w : World) : Calls Try.prog 95 #[.agg #[.int .i64 a, .int .i64 b], .agg #[.int .i64 c, .int .i64 d]] w (DivCalc k f 0 0 false w) := by
  refine (D w).out.mono ?_
  rintro e w' ⟨v, rfl, hown, hB⟩
  obtain ⟨o, cap, rfl, _, _⟩ := owns_form hown
  exact ⟨_, rfl, hB, pcalc_nil k f o cap w'⟩

theorem psize_any {v : Int} (h1 : -9223372036854775808 ≤ v) (h2 : v ≤ 9223372036854775807) : SizeOf v (v.natAbs : Int) := fun w => Lib.hid (psize v w h1 h2)
theorem has_any (a b v : Int) : Has a b v (decide (a ≤ v) && decide (v ≤ b)) := fun w => Lib.hid (pcontains a b v w)
theorem psizes_any (c d : Int) (h1 : -9223372036854775808 ≤ c) (h2 : c ≤ 9223372036854775807) (h3 : -9223372036854775808 ≤ d) (h4 : d ≤ 9223372036854775807) :
    SizesOut c d (if c ≤ 0 ∧ 0 ≤ d then 1 else min (c.natAbs : Int) (d.natAbs : Int)) (max (c.natAbs : Int) (d.natAbs : Int)) := by
  intro w
  refine Lib.hid ?_
  have S1 := psize_any h1 h2
  have S2 := psize_any h3 h4
  have T := has_any c d 0
  by_cases ht : c ≤ 0 ∧ 0 ≤ d
  · rw [if_pos ht]
    rw [show (decide (c ≤ 0) && decide (0 ≤ d)) = true by simp; exact ht] at T
    rcases Int.lt_trichotomy (c.natAbs : Int) (d.natAbs : Int) with h | h | h
    · rw [show max (c.natAbs : Int) (d.natAbs : Int) = d.natAbs by omega]
      exact psizes_lt_true c d _ _ w S1 S2 T h
    · rw [← h] at S2
      rw [show max (c.natAbs : Int) (d.natAbs : Int) = c.natAbs by omega]
      exact psizes_eq_true c d _ 0 w S1 S2 T
    · rw [show max (c.natAbs : Int) (d.natAbs : Int) = c.natAbs by omega]
      exact psizes_gt_true c d _ _ w S1 S2 T h
  · rw [if_neg ht]
    rw [show (decide (c ≤ 0) && decide (0 ≤ d)) = false by simp; omega] at T
    rcases Int.lt_trichotomy (c.natAbs : Int) (d.natAbs : Int) with h | h | h
    · rw [show max (c.natAbs : Int) (d.natAbs : Int) = d.natAbs by omega, show min (c.natAbs : Int) (d.natAbs : Int) = c.natAbs by omega]
      exact psizes_lt_false c d _ _ w S1 S2 T h
    · rw [← h] at S2
      rw [show max (c.natAbs : Int) (d.natAbs : Int) = c.natAbs by omega, show min (c.natAbs : Int) (d.natAbs : Int) = c.natAbs by omega]
      exact psizes_eq_false c d _ 0 w S1 S2 T
    · rw [show max (c.natAbs : Int) (d.natAbs : Int) = c.natAbs by omega, show min (c.natAbs : Int) (d.natAbs : Int) = d.natAbs by omega]
      exact psizes_gt_false c d _ _ w S1 S2 T h

theorem prem_some (a b c d l g : Int) (L : List Pr) (hL : 0 < L.length) (D : DivOut a b c d L) (Z : SizesOut c d l g) (g1 : 1 ≤ g) (g2 : g ≤ 9223372036854775808) (h1 : -9223372036854775808 ≤ a) (h2 : a ≤ 9223372036854775807) (h3 : -9223372036854775808 ≤ b) (h4 : b ≤ 9223372036854775807) :
    EffFn 97 #[.agg #[.int .i64 a, .int .i64 b], .agg #[.int .i64 c, .int .i64 d]] (restS a b l g).1 (restS a b l g).2 true false false := by
  intro w
  refine Lib.hid ?_
  have S1 := psize_any h1 h2
  have S2 := psize_any h3 h4
  unfold restS absS
  by_cases hs : (a.natAbs : Int) < l ∧ (b.natAbs : Int) < l
  · rw [if_pos hs]
    exact prem_small a b c d l g _ _ L w hL D Z S1 S2 hs.1 hs.2
  · rw [if_neg hs]
    have Z' : SizesOut c d l (g - 1 + 1) := by rw [show g - 1 + 1 = g by omega]; exact Z
    refine prem_big a b c d l (g - 1) (a.natAbs : Int) (b.natAbs : Int) _ _ L w hL D Z' S1 S2 (by omega) (by omega) (by omega) (Lib.hid ?_) (Lib.hid ?_)
    · by_cases ha : a < 0
      · rw [if_pos ha]
        by_cases h : a < -(g - 1)
        · left; exact ⟨ha, h, by omega⟩
        · right; left; exact ⟨ha, by omega, by omega⟩
      · right; right; rw [if_neg ha]; exact ⟨by simpa using ha, rfl⟩
    · by_cases hb : 0 < b
      · rw [if_pos hb]
        by_cases h : b ≤ g - 1
        · left; exact ⟨hb, h, by omega⟩
        · right; left; exact ⟨hb, by omega, by omega⟩
      · right; right; rw [if_neg hb]; exact ⟨by simpa using hb, rfl⟩
theorem prem_empty (a b c d : Int) (D : DivOut a b c d []) : EffFn 97 #[.agg #[.int .i64 a, .int .i64 b], .agg #[.int .i64 c, .int .i64 d]] 0 0 false false false := fun w => Lib.hid (prem_none a b c d w D)

/-- What divided adds. -/
def undS (a b c d : Int) : Bool := (decide (a ≤ -9223372036854775808) && decide (-9223372036854775808 ≤ b)) && (decide (c ≤ -1) && decide (-1 ≤ d))
theorem pdivided (a b c d x y : Int) (s : Bool) : EffFn 93 #[.agg #[.int .i64 a, .int .i64 b], .agg #[.int .i64 c, .int .i64 d], .agg #[.int .i64 x, .int .i64 y, .bool s, .bool false, .bool false]] x y s (decide (c ≤ 0) && decide (0 ≤ d)) (undS a b c d) := by
  intro w
  refine Lib.hid ?_
  have C1 := has_any c d 0
  have C2 := has_any a b (-9223372036854775808)
  have C3 := has_any c d (-1)
  unfold undS
  cases h : (decide (a ≤ -9223372036854775808) && decide (-9223372036854775808 ≤ b)) with
  | false =>
    rw [h] at C2
    exact pdivided_f a b c d x y s _ false w C1 C2
  | true =>
    rw [h] at C2
    rw [Bool.true_and]
    exact pdivided_t a b c d x y s _ _ w C1 C2 C3

end Go.Proofs.Ytgkhldbnljdeiaa

/- Binary of layer 4 at the examples of the document. -/
namespace Go.Proofs.Ytgkhldbnljdeiaa
open Go.RowKit RangesMath Go.MapKept

theorem ex_add : BinOut 21 4 1 1 3 10 20 11 23 true false false 0 := by
  intro w
  refine Lib.hid ?_
  have C := calc_ok 1 99 (fun x y => x + y) [⟨1, 3, 10, 20⟩] 11 23 (by decide) (by decide) ent_sum (sum_fn _ (by simp)) (by decide) (by decide) (.inl rfl)
  refine binary_arith 4 1 1 3 10 20 11 23 true false false (.inl rfl) (by omega) (fun w => arith_eff 4 1 1 3 10 20 11 23 true false false 98 3 (fun n => rfl) ent_a4 ?_ w) (by decide) (by decide) w
  intro kb w hkb hk
  exact parith_4 1 1 3 10 20 _ _ kb w hkb hk (Lib.hid (calc1_of C))

theorem ex_sub : BinOut 21 5 2 5 6 10 10 251 252 true false false 0 := by
  intro w
  refine Lib.hid ?_
  have C := calc_ok 2 52 (fun x y => x - y) [⟨5, 6, 10, 10⟩] (-5) (-4) (by decide) (by decide) ent_difference (difference_fn _ (by simp)) (by decide) (by decide) (.inr (by omega))
  refine binary_arith 5 2 5 6 10 10 251 252 true false false (.inr rfl) (by omega) (fun w => arith_eff 5 2 5 6 10 10 251 252 true false false 100 4 (fun n => rfl) ent_a5 ?_ w) (by decide) (by decide) w
  intro kb w hkb hk
  exact parith_5 2 5 6 10 10 _ _ kb w hkb hk (Lib.hid (calc1_of C))

theorem ex_div : BinOut 21 2 1 (-7) 9 (-2) 3 (-9) 9 true true false 0 := by
  intro w
  refine Lib.hid ?_
  have D := pdivisible (-7) 9 (-2) 3
  rw [show divL (-7) 9 (-2) 3 = [⟨-7, 9, -2, -2⟩, ⟨-7, 9, -1, -1⟩, ⟨-7, 9, 1, 3⟩] by rfl] at D
  have C := calc_ok 1 94 (fun x y => x.tdiv y) [⟨-7, 9, -2, -2⟩, ⟨-7, 9, -1, -1⟩, ⟨-7, 9, 1, 3⟩] (-9) 9 (by decide) (by decide) ent_quotient (quotient_fn _ (by
    intro p hp u hu z hz
    simp only [List.mem_cons, List.not_mem_nil, or_false] at hp
    rcases hp with rfl | rfl | rfl <;> rcases hu with rfl | rfl <;> rcases hz with rfl | rfl <;> decide)) (by decide) (by decide) (.inl rfl)
  refine binary_arith 2 1 (-7) 9 (-2) 3 (-9) 9 true true false (.inl rfl) (by omega) (fun w => arith_eff 2 1 (-7) 9 (-2) 3 (-9) 9 true true false 92 1 (fun n => rfl) ent_a2 ?_ w) (by decide) (by decide) w
  intro kb w hkb hk
  exact parith_2 1 (-7) 9 (-2) 3 (-9) 9 true true false kb w hkb hk (fun w => Lib.hid (divcalc_some D (by decide) C w)) (pdivided (-7) 9 (-2) 3 (-9) 9 true)

theorem ex_rem : BinOut 21 3 1 (-5) 20 4 4 (-3) 3 true false false 0 := by
  intro w
  refine Lib.hid ?_
  have D := pdivisible (-5) 20 4 4
  have Z := psizes_any 4 4 (by decide) (by decide) (by decide) (by decide)
  have R := prem_some (-5) 20 4 4 4 4 _ (by decide) D Z (by decide) (by decide) (by decide) (by decide) (by decide) (by decide)
  refine binary_arith 3 1 (-5) 20 4 4 (-3) 3 true false false (.inl rfl) (by omega) (fun w => arith_eff3 1 (-5) 20 4 4 (-3) 3 true false false ?_ ent_a3 w) (by decide) (by decide) w
  intro w
  exact parith_3 (-5) 20 4 4 (-3) 3 true false false w R (pdivided (-5) 20 4 4 (-3) 3 true)

theorem shown_ok : ShownOK' := by
  intro w
  refine shown_of (fun w => ?_) (fun w => ?_) (fun w => ?_) (fun w => ?_) (fun w => ?_) w
  · exact (ex_add w).out
  · exact (ex_sub w).out
  · exact (ex_div w).out
  · exact (ex_rem w).out
  · have i : ∀ n : Int, -9223372036854775808 ≤ n → n ≤ 9223372036854775807 → In64 n := fun n h1 h2 => ⟨h1, h2⟩
    exact (passume_spec 13 1 0 10 5 5 true (i _ (by omega) (by omega)) (i _ (by omega) (by omega)) (i _ (by omega) (by omega)) (i _ (by omega) (by omega)) w).out

end Go.Proofs.Ytgkhldbnljdeiaa
