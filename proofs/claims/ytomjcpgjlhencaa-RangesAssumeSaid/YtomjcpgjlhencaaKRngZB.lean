/- binaryOf and Binary of layer 4, over what the maps of operators answer. -/
import Derived.Test.YtomjcpgjlhencaaKRngZA
import Derived.Test.YtomjcpgjlhencaaKRngTToRngU
set_option linter.unusedSimpArgs false
set_option linter.unusedVariables false
namespace Go.Proofs.Ytomjcpgjlhencaa
open Go.RowKit RangesMath
attribute [local go_sem] World.setCell_self

/-- A map of operators has no answer for op. -/
def FindNo (op : Int) (w : World) (e : Ending) (w' : World) : Prop := ∃ m, e = .returned m ∧ Below w.heap.size w w' ∧ (Instr.lookup 100 m (.int .i64 op) true).run Try.prog w' = .ok (.tuple #[.nilFunc, .bool false]) w'
/-- From this world on the function g, with what it has captured, makes this effect of two ranges. -/
def Makes (g : Nat) (cap : Array Value) (a b c d x y : Int) (s t u : Bool) (w : World) : Prop := ∀ w2, Below w.heap.size w w2 → Calls Try.prog g (#[.agg #[.int .i64 a, .int .i64 b], .agg #[.int .i64 c, .int .i64 d]] ++ cap) w2 fun e w' => e = .returned (EffV x y s t u) ∧ Below w2.heap.size w2 w'
/-- A map of operators answers op by a function that makes this effect. -/
def FindEff (op a b c d x y : Int) (s t u : Bool) (w : World) (e : Ending) (w' : World) : Prop := ∃ m g cap, e = .returned m ∧ Below w.heap.size w w' ∧ (Instr.lookup 100 m (.int .i64 op) true).run Try.prog w' = .ok (.tuple #[.func (.func g) #[] cap, .bool true]) w' ∧ Enters g ∧ Makes g cap a b c d x y s t u w'
def BofEff (a b c d x y : Int) (s t u : Bool) (w : World) (e : Ending) (w' : World) : Prop := ∃ g cap, e = .returned (.tuple #[.func (.func g) #[] cap, .bool true]) ∧ Below w.heap.size w w' ∧ Enters g ∧ Makes g cap a b c d x y s t u w'
def BofNo (w : World) (e : Ending) (w' : World) : Prop := e = .returned (.tuple #[.nilFunc, .bool false]) ∧ Below w.heap.size w w'
theorem Makes.later {g : Nat} {cap : Array Value} {a b c d x y : Int} {s t u : Bool} {w w' : World} (h : Makes g cap a b c d x y s t u w) (hb : Below w.heap.size w w') : Makes g cap a b c d x y s t u w' := fun w2 h2 => h w2 (hb.trans (h2.mono hb.size))

set_option maxRecDepth 100000 in
set_option maxHeartbeats 4000000 in
theorem pbof_arith_1 (op a b c d x y : Int) (s t u : Bool) (w : World) (C : ∀ w, Hid (Calls Try.prog 45 #[.int .i64 1] w (CompOut [(op, .nilFunc)] w))) (N : ∀ w, Hid (Calls Try.prog 59 #[.int .i64 1] w (FindNo op w))) (Y : ∀ w, Hid (Calls Try.prog 60 #[.int .i64 1] w (FindEff op a b c d x y s t u w))) :
    Calls Try.prog 37 #[.int .i64 op, .int .i64 1] w (BofEff a b c d x y s t u w) := by
  have q0 := run_neq_nil
  go_enter Try.func37, Try.ntmps37
  go_wp2_with fail
  refine (C _).out.mono ?_
  rintro e w1 ⟨m, rfl, hb1, hM⟩
  have L := hM _ (List.mem_singleton.2 rfl) w1 (Below.refl _ _)
  dsimp only at L
  clear hM
  go_wp2_with fail
  clear L
  refine (N _).out.mono ?_
  rintro e w2 ⟨m2, rfl, hb2, L2⟩
  go_wp2_with fail
  clear L2
  refine (Y _).out.mono ?_
  rintro e w3 ⟨m3, g, cap, rfl, hb3, L3, hE, hK⟩
  have HK := Lib.hid hK
  have HE := Lib.hid hE
  clear hK hE
  go_wp2
  go_ret2
  exact ⟨g, cap, rfl, (hb1.trans (hb2.mono hb1.size)).trans (hb3.mono (Nat.le_trans hb1.size hb2.size)), HE.out, HK.out⟩

set_option maxRecDepth 100000 in
set_option maxHeartbeats 4000000 in
theorem pbof_none_1 (op : Int) (w : World) (C : ∀ w, Hid (Calls Try.prog 45 #[.int .i64 1] w (CompOut [(op, .nilFunc)] w))) (N : ∀ w, Hid (Calls Try.prog 59 #[.int .i64 1] w (FindNo op w))) (Y : ∀ w, Hid (Calls Try.prog 60 #[.int .i64 1] w (FindNo op w))) :
    Calls Try.prog 37 #[.int .i64 op, .int .i64 1] w (BofNo w) := by
  have q0 := run_neq_nil
  go_enter Try.func37, Try.ntmps37
  go_wp2_with fail
  refine (C _).out.mono ?_
  rintro e w1 ⟨m, rfl, hb1, hM⟩
  have L := hM _ (List.mem_singleton.2 rfl) w1 (Below.refl _ _)
  dsimp only at L
  clear hM
  go_wp2_with fail
  clear L
  refine (N _).out.mono ?_
  rintro e w2 ⟨m2, rfl, hb2, L2⟩
  go_wp2_with fail
  clear L2
  refine (Y _).out.mono ?_
  rintro e w3 ⟨m3, rfl, hb3, L3⟩
  go_wp2
  go_ret2
  exact ⟨rfl, (hb1.trans (hb2.mono hb1.size)).trans (hb3.mono (Nat.le_trans hb1.size hb2.size))⟩

set_option maxRecDepth 100000 in
set_option maxHeartbeats 4000000 in
theorem pbof_bits_1 (op a b c d x y : Int) (s t u : Bool) (w : World) (C : ∀ w, Hid (Calls Try.prog 45 #[.int .i64 1] w (CompOut [(op, .nilFunc)] w))) (Y : ∀ w, Hid (Calls Try.prog 59 #[.int .i64 1] w (FindEff op a b c d x y s t u w))) :
    Calls Try.prog 37 #[.int .i64 op, .int .i64 1] w (BofEff a b c d x y s t u w) := by
  have q0 := run_neq_nil
  go_enter Try.func37, Try.ntmps37
  go_wp2_with fail
  refine (C _).out.mono ?_
  rintro e w1 ⟨m, rfl, hb1, hM⟩
  have L := hM _ (List.mem_singleton.2 rfl) w1 (Below.refl _ _)
  dsimp only at L
  clear hM
  go_wp2_with fail
  clear L
  refine (Y _).out.mono ?_
  rintro e w3 ⟨m3, g, cap, rfl, hb3, L3, hE, hK⟩
  have HK := Lib.hid hK
  have HE := Lib.hid hE
  clear hK hE
  go_wp2
  go_ret2
  exact ⟨g, cap, rfl, hb1.trans (hb3.mono hb1.size), HE.out, HK.out⟩

set_option maxRecDepth 100000 in
set_option maxHeartbeats 4000000 in
theorem pbof_arith_2 (op a b c d x y : Int) (s t u : Bool) (w : World) (C : ∀ w, Hid (Calls Try.prog 45 #[.int .i64 2] w (CompOut [(op, .nilFunc)] w))) (N : ∀ w, Hid (Calls Try.prog 59 #[.int .i64 2] w (FindNo op w))) (Y : ∀ w, Hid (Calls Try.prog 60 #[.int .i64 2] w (FindEff op a b c d x y s t u w))) :
    Calls Try.prog 37 #[.int .i64 op, .int .i64 2] w (BofEff a b c d x y s t u w) := by
  have q0 := run_neq_nil
  go_enter Try.func37, Try.ntmps37
  go_wp2_with fail
  refine (C _).out.mono ?_
  rintro e w1 ⟨m, rfl, hb1, hM⟩
  have L := hM _ (List.mem_singleton.2 rfl) w1 (Below.refl _ _)
  dsimp only at L
  clear hM
  go_wp2_with fail
  clear L
  refine (N _).out.mono ?_
  rintro e w2 ⟨m2, rfl, hb2, L2⟩
  go_wp2_with fail
  clear L2
  refine (Y _).out.mono ?_
  rintro e w3 ⟨m3, g, cap, rfl, hb3, L3, hE, hK⟩
  have HK := Lib.hid hK
  have HE := Lib.hid hE
  clear hK hE
  go_wp2
  go_ret2
  exact ⟨g, cap, rfl, (hb1.trans (hb2.mono hb1.size)).trans (hb3.mono (Nat.le_trans hb1.size hb2.size)), HE.out, HK.out⟩

set_option maxRecDepth 100000 in
set_option maxHeartbeats 4000000 in
theorem pbof_none_2 (op : Int) (w : World) (C : ∀ w, Hid (Calls Try.prog 45 #[.int .i64 2] w (CompOut [(op, .nilFunc)] w))) (N : ∀ w, Hid (Calls Try.prog 59 #[.int .i64 2] w (FindNo op w))) (Y : ∀ w, Hid (Calls Try.prog 60 #[.int .i64 2] w (FindNo op w))) :
    Calls Try.prog 37 #[.int .i64 op, .int .i64 2] w (BofNo w) := by
  have q0 := run_neq_nil
  go_enter Try.func37, Try.ntmps37
  go_wp2_with fail
  refine (C _).out.mono ?_
  rintro e w1 ⟨m, rfl, hb1, hM⟩
  have L := hM _ (List.mem_singleton.2 rfl) w1 (Below.refl _ _)
  dsimp only at L
  clear hM
  go_wp2_with fail
  clear L
  refine (N _).out.mono ?_
  rintro e w2 ⟨m2, rfl, hb2, L2⟩
  go_wp2_with fail
  clear L2
  refine (Y _).out.mono ?_
  rintro e w3 ⟨m3, rfl, hb3, L3⟩
  go_wp2
  go_ret2
  exact ⟨rfl, (hb1.trans (hb2.mono hb1.size)).trans (hb3.mono (Nat.le_trans hb1.size hb2.size))⟩

set_option maxRecDepth 100000 in
set_option maxHeartbeats 4000000 in
theorem pbof_bits_2 (op a b c d x y : Int) (s t u : Bool) (w : World) (C : ∀ w, Hid (Calls Try.prog 45 #[.int .i64 2] w (CompOut [(op, .nilFunc)] w))) (Y : ∀ w, Hid (Calls Try.prog 59 #[.int .i64 2] w (FindEff op a b c d x y s t u w))) :
    Calls Try.prog 37 #[.int .i64 op, .int .i64 2] w (BofEff a b c d x y s t u w) := by
  have q0 := run_neq_nil
  go_enter Try.func37, Try.ntmps37
  go_wp2_with fail
  refine (C _).out.mono ?_
  rintro e w1 ⟨m, rfl, hb1, hM⟩
  have L := hM _ (List.mem_singleton.2 rfl) w1 (Below.refl _ _)
  dsimp only at L
  clear hM
  go_wp2_with fail
  clear L
  refine (Y _).out.mono ?_
  rintro e w3 ⟨m3, g, cap, rfl, hb3, L3, hE, hK⟩
  have HK := Lib.hid hK
  have HE := Lib.hid hE
  clear hK hE
  go_wp2
  go_ret2
  exact ⟨g, cap, rfl, hb1.trans (hb3.mono hb1.size), HE.out, HK.out⟩

set_option maxRecDepth 100000 in
set_option maxHeartbeats 4000000 in
theorem pbof_con (op a b c d x y : Int) (s t u : Bool) (w : World) (C : ∀ w, Hid (Calls Try.prog 45 #[.int .i64 3] w (CompOut [(op, .nilFunc)] w))) (Y : ∀ w, Hid (Calls Try.prog 61 #[] w (FindEff op a b c d x y s t u w))) :
    Calls Try.prog 37 #[.int .i64 op, .int .i64 3] w (BofEff a b c d x y s t u w) := by
  have q0 := run_neq_nil
  go_enter Try.func37, Try.ntmps37
  go_wp2_with fail
  refine (C _).out.mono ?_
  rintro e w1 ⟨m, rfl, hb1, hM⟩
  have L := hM _ (List.mem_singleton.2 rfl) w1 (Below.refl _ _)
  dsimp only at L
  clear hM
  go_wp2_with fail
  clear L
  refine (Y _).out.mono ?_
  rintro e w3 ⟨m3, g, cap, rfl, hb3, L3, hE, hK⟩
  have HK := Lib.hid hK
  have HE := Lib.hid hE
  clear hK hE
  go_wp2
  go_ret2
  exact ⟨g, cap, rfl, hb1.trans (hb3.mono hb1.size), HE.out, HK.out⟩

set_option maxRecDepth 100000 in
set_option maxHeartbeats 4000000 in
theorem pbof_none_3 (op : Int) (w : World) (C : ∀ w, Hid (Calls Try.prog 45 #[.int .i64 3] w (CompOut [(op, .nilFunc)] w))) (Y : ∀ w, Hid (Calls Try.prog 61 #[] w (FindNo op w))) :
    Calls Try.prog 37 #[.int .i64 op, .int .i64 3] w (BofNo w) := by
  have q0 := run_neq_nil
  go_enter Try.func37, Try.ntmps37
  go_wp2_with fail
  refine (C _).out.mono ?_
  rintro e w1 ⟨m, rfl, hb1, hM⟩
  have L := hM _ (List.mem_singleton.2 rfl) w1 (Below.refl _ _)
  dsimp only at L
  clear hM
  go_wp2_with fail
  clear L
  refine (Y _).out.mono ?_
  rintro e w3 ⟨m3, rfl, hb3, L3⟩
  go_wp2
  go_ret2
  exact ⟨rfl, hb1.trans (hb3.mono hb1.size)⟩

set_option maxRecDepth 100000 in
set_option maxHeartbeats 4000000 in
theorem pbof_none (op k : Int) (w : World) (k1 : (k == 1) = false) (k2 : (k == 2) = false) (k3 : (k == 3) = false) (C : ∀ w, Hid (Calls Try.prog 45 #[.int .i64 k] w (CompOut [(op, .nilFunc)] w))) :
    Calls Try.prog 37 #[.int .i64 op, .int .i64 k] w (BofNo w) := by
  have q0 := run_neq_nil
  go_enter Try.func37, Try.ntmps37
  go_wp2_with fail
  refine (C _).out.mono ?_
  rintro e w1 ⟨m, rfl, hb1, hM⟩
  have L := hM _ (List.mem_singleton.2 rfl) w1 (Below.refl _ _)
  dsimp only at L
  clear hM
  go_wp2
  go_ret2
  exact ⟨rfl, hb1⟩

set_option maxRecDepth 100000 in
set_option maxHeartbeats 4000000 in
theorem pbinary_no (op k a b c d : Int) (w : World) (B : ∀ w, Hid (Calls Try.prog 37 #[.int .i64 op, .int .i64 k] w (BofNo w))) :
    Calls Try.prog 21 #[.int .i64 op, .int .i64 k, .agg #[.int .i64 a, .int .i64 b], .agg #[.int .i64 c, .int .i64 d]] w fun e w' => e = .returned (.tuple #[.agg #[.int .i64 0, .int .i64 0, .bool false, .bool false, .bool false], .int .i64 2]) ∧ Below w.heap.size w w' := by
  go_enter Try.func21, Try.ntmps21
  go_wp2_with fail
  have KI : Keeps (w.heap.size) [(w.heap.size, 0, .int .i64 a), (w.heap.size, 1, .int .i64 b), (w.heap.size + 1, 0, .int .i64 c), (w.heap.size + 1, 1, .int .i64 d)] [(w.heap.size + 1 + 1, 0), (w.heap.size + 1 + 1, 1), (w.heap.size + 1 + 1, 2), (w.heap.size + 1 + 1, 3), (w.heap.size + 1 + 1, 4)] w (((w.alloc (.cells #[.int .i64 a, .int .i64 b] 23)).alloc (.cells #[.int .i64 c, .int .i64 d] 23)).alloc (.cells #[.int .i64 0, .int .i64 0, .bool false, .bool false, .bool false] 37)) := by
    refine ⟨?_, ?_, ?_, ?_, by simp; try omega, (((Below.refl _ _).alloc (Nat.le_refl _) _).alloc (by simp) _).alloc (by simp; omega) _⟩
    · simp only [List.forall_mem_cons, List.not_mem_nil, false_imp_iff, implies_true, and_true]
      exact ⟨by go_simp, by go_simp, by go_simp, by go_simp⟩
    · simp only [List.forall_mem_cons, List.not_mem_nil, false_imp_iff, implies_true, and_true]
      exact ⟨valAt_some (by go_simp), valAt_some (by go_simp), valAt_some (by go_simp), valAt_some (by go_simp), valAt_some (by go_simp)⟩
    · simp only [List.forall_mem_cons, List.not_mem_nil, false_imp_iff, implies_true, and_true]
      exact ⟨by go_simp, by go_simp, by go_simp, by go_simp, by go_simp⟩
    · simp only [List.forall_mem_cons, List.not_mem_nil, false_imp_iff, implies_true, and_true]
      exact ⟨by simp; try omega, by simp; try omega, by simp; try omega, by simp; try omega, by simp; try omega⟩
  have KI := Lib.hid KI
  generalize (((w.alloc (.cells #[.int .i64 a, .int .i64 b] 23)).alloc (.cells #[.int .i64 c, .int .i64 d] 23)).alloc (.cells #[.int .i64 0, .int .i64 0, .bool false, .bool false, .bool false] 37)) = W at *
  refine (B _).out.mono ?_
  rintro e w1 ⟨rfl, hb⟩
  have K1 := Lib.hid (KI.out.later hb)
  clear hb KI
  have k0 : w1.cell? ⟨w.heap.size, 0, none⟩ = some (.int .i64 a) := (K1.out).fixed (w.heap.size, 0, .int .i64 a) (by simp)
  have k1 : w1.cell? ⟨w.heap.size, 1, none⟩ = some (.int .i64 b) := (K1.out).fixed (w.heap.size, 1, .int .i64 b) (by simp)
  have k2 : w1.cell? ⟨w.heap.size + 1, 0, none⟩ = some (.int .i64 c) := (K1.out).fixed (w.heap.size + 1, 0, .int .i64 c) (by simp)
  have k3 : w1.cell? ⟨w.heap.size + 1, 1, none⟩ = some (.int .i64 d) := (K1.out).fixed (w.heap.size + 1, 1, .int .i64 d) (by simp)
  have v0 : w1.cell? ⟨w.heap.size + 1 + 1, 0, none⟩ = some (valAt w1 ⟨w.heap.size + 1 + 1, 0, none⟩) := (K1.out).there (w.heap.size + 1 + 1, 0) (by simp)
  have f0 : w1.frozen? ⟨w.heap.size + 1 + 1, 0, none⟩ = false := (K1.out).froz (w.heap.size + 1 + 1, 0) (by simp)
  have v1 : w1.cell? ⟨w.heap.size + 1 + 1, 1, none⟩ = some (valAt w1 ⟨w.heap.size + 1 + 1, 1, none⟩) := (K1.out).there (w.heap.size + 1 + 1, 1) (by simp)
  have f1 : w1.frozen? ⟨w.heap.size + 1 + 1, 1, none⟩ = false := (K1.out).froz (w.heap.size + 1 + 1, 1) (by simp)
  have v2 : w1.cell? ⟨w.heap.size + 1 + 1, 2, none⟩ = some (valAt w1 ⟨w.heap.size + 1 + 1, 2, none⟩) := (K1.out).there (w.heap.size + 1 + 1, 2) (by simp)
  have f2 : w1.frozen? ⟨w.heap.size + 1 + 1, 2, none⟩ = false := (K1.out).froz (w.heap.size + 1 + 1, 2) (by simp)
  have v3 : w1.cell? ⟨w.heap.size + 1 + 1, 3, none⟩ = some (valAt w1 ⟨w.heap.size + 1 + 1, 3, none⟩) := (K1.out).there (w.heap.size + 1 + 1, 3) (by simp)
  have f3 : w1.frozen? ⟨w.heap.size + 1 + 1, 3, none⟩ = false := (K1.out).froz (w.heap.size + 1 + 1, 3) (by simp)
  have v4 : w1.cell? ⟨w.heap.size + 1 + 1, 4, none⟩ = some (valAt w1 ⟨w.heap.size + 1 + 1, 4, none⟩) := (K1.out).there (w.heap.size + 1 + 1, 4) (by simp)
  have f4 : w1.frozen? ⟨w.heap.size + 1 + 1, 4, none⟩ = false := (K1.out).froz (w.heap.size + 1 + 1, 4) (by simp)
  have z0 : w.heap.size + 1 + 1 < w1.heap.size := (K1.out).lt (w.heap.size + 1 + 1, 0) (by simp)
  go_wp2
  have bl := K1.out.bl
  refine bodyPost_ret (v := .tuple #[.agg #[.int .i64 0, .int .i64 0, .bool false, .bool false, .bool false], .int .i64 2]) (by simp [results, Try.results21, go_sem, v0, v1, v2, v3, v4]) rfl ⟨rfl, ?_⟩
  exact ((((bl.setCell (by simp; omega) _).setCell (by simp; omega) _).setCell (by simp; omega) _).setCell (by simp; omega) _).setCell (by simp; omega) _

set_option maxRecDepth 100000 in
set_option maxHeartbeats 4000000 in
theorem pbinary_bad (op k a b c d x y : Int) (s t u : Bool) (w : World) (B : ∀ w, Hid (Calls Try.prog 37 #[.int .i64 op, .int .i64 k] w (BofEff a b c d x y s t u w))) (A : Are2 k a b c d false) :
    Calls Try.prog 21 #[.int .i64 op, .int .i64 k, .agg #[.int .i64 a, .int .i64 b], .agg #[.int .i64 c, .int .i64 d]] w fun e w' => e = .returned (.tuple #[.agg #[.int .i64 0, .int .i64 0, .bool false, .bool false, .bool false], .int .i64 2]) ∧ Below w.heap.size w w' := by
  go_enter Try.func21, Try.ntmps21
  go_wp2_with fail
  have A := Lib.hid A
  have KI : Keeps (w.heap.size) [(w.heap.size, 0, .int .i64 a), (w.heap.size, 1, .int .i64 b), (w.heap.size + 1, 0, .int .i64 c), (w.heap.size + 1, 1, .int .i64 d)] [(w.heap.size + 1 + 1, 0), (w.heap.size + 1 + 1, 1), (w.heap.size + 1 + 1, 2), (w.heap.size + 1 + 1, 3), (w.heap.size + 1 + 1, 4)] w (((w.alloc (.cells #[.int .i64 a, .int .i64 b] 23)).alloc (.cells #[.int .i64 c, .int .i64 d] 23)).alloc (.cells #[.int .i64 0, .int .i64 0, .bool false, .bool false, .bool false] 37)) := by
    refine ⟨?_, ?_, ?_, ?_, by simp; try omega, (((Below.refl _ _).alloc (Nat.le_refl _) _).alloc (by simp) _).alloc (by simp; omega) _⟩
    · simp only [List.forall_mem_cons, List.not_mem_nil, false_imp_iff, implies_true, and_true]
      exact ⟨by go_simp, by go_simp, by go_simp, by go_simp⟩
    · simp only [List.forall_mem_cons, List.not_mem_nil, false_imp_iff, implies_true, and_true]
      exact ⟨valAt_some (by go_simp), valAt_some (by go_simp), valAt_some (by go_simp), valAt_some (by go_simp), valAt_some (by go_simp)⟩
    · simp only [List.forall_mem_cons, List.not_mem_nil, false_imp_iff, implies_true, and_true]
      exact ⟨by go_simp, by go_simp, by go_simp, by go_simp, by go_simp⟩
    · simp only [List.forall_mem_cons, List.not_mem_nil, false_imp_iff, implies_true, and_true]
      exact ⟨by simp; try omega, by simp; try omega, by simp; try omega, by simp; try omega, by simp; try omega⟩
  have KI := Lib.hid KI
  generalize (((w.alloc (.cells #[.int .i64 a, .int .i64 b] 23)).alloc (.cells #[.int .i64 c, .int .i64 d] 23)).alloc (.cells #[.int .i64 0, .int .i64 0, .bool false, .bool false, .bool false] 37)) = W at *
  refine (B _).out.mono ?_
  rintro e w1 ⟨g, cap, rfl, hb, hE, hK⟩
  have K1 := Lib.hid (KI.out.later hb)
  have HK := Lib.hid hK
  have eg : ∀ args w, (callFunc g args).run Try.prog w = .ok (.enter g args) w := hE
  clear hb KI hK hE
  have k0 : w1.cell? ⟨w.heap.size, 0, none⟩ = some (.int .i64 a) := (K1.out).fixed (w.heap.size, 0, .int .i64 a) (by simp)
  have k1 : w1.cell? ⟨w.heap.size, 1, none⟩ = some (.int .i64 b) := (K1.out).fixed (w.heap.size, 1, .int .i64 b) (by simp)
  have k2 : w1.cell? ⟨w.heap.size + 1, 0, none⟩ = some (.int .i64 c) := (K1.out).fixed (w.heap.size + 1, 0, .int .i64 c) (by simp)
  have k3 : w1.cell? ⟨w.heap.size + 1, 1, none⟩ = some (.int .i64 d) := (K1.out).fixed (w.heap.size + 1, 1, .int .i64 d) (by simp)
  have v0 : w1.cell? ⟨w.heap.size + 1 + 1, 0, none⟩ = some (valAt w1 ⟨w.heap.size + 1 + 1, 0, none⟩) := (K1.out).there (w.heap.size + 1 + 1, 0) (by simp)
  have f0 : w1.frozen? ⟨w.heap.size + 1 + 1, 0, none⟩ = false := (K1.out).froz (w.heap.size + 1 + 1, 0) (by simp)
  have v1 : w1.cell? ⟨w.heap.size + 1 + 1, 1, none⟩ = some (valAt w1 ⟨w.heap.size + 1 + 1, 1, none⟩) := (K1.out).there (w.heap.size + 1 + 1, 1) (by simp)
  have f1 : w1.frozen? ⟨w.heap.size + 1 + 1, 1, none⟩ = false := (K1.out).froz (w.heap.size + 1 + 1, 1) (by simp)
  have v2 : w1.cell? ⟨w.heap.size + 1 + 1, 2, none⟩ = some (valAt w1 ⟨w.heap.size + 1 + 1, 2, none⟩) := (K1.out).there (w.heap.size + 1 + 1, 2) (by simp)
  have f2 : w1.frozen? ⟨w.heap.size + 1 + 1, 2, none⟩ = false := (K1.out).froz (w.heap.size + 1 + 1, 2) (by simp)
  have v3 : w1.cell? ⟨w.heap.size + 1 + 1, 3, none⟩ = some (valAt w1 ⟨w.heap.size + 1 + 1, 3, none⟩) := (K1.out).there (w.heap.size + 1 + 1, 3) (by simp)
  have f3 : w1.frozen? ⟨w.heap.size + 1 + 1, 3, none⟩ = false := (K1.out).froz (w.heap.size + 1 + 1, 3) (by simp)
  have v4 : w1.cell? ⟨w.heap.size + 1 + 1, 4, none⟩ = some (valAt w1 ⟨w.heap.size + 1 + 1, 4, none⟩) := (K1.out).there (w.heap.size + 1 + 1, 4) (by simp)
  have f4 : w1.frozen? ⟨w.heap.size + 1 + 1, 4, none⟩ = false := (K1.out).froz (w.heap.size + 1 + 1, 4) (by simp)
  have z0 : w.heap.size + 1 + 1 < w1.heap.size := (K1.out).lt (w.heap.size + 1 + 1, 0) (by simp)
  have y0 : w.heap.size < w1.heap.size := by omega
  have y1 : w.heap.size + 1 < w1.heap.size := by omega
  go_wp2_with fail
  refine (A.out _ _ _ (by simp) (by omega) ⟨by go_simp, by go_simp⟩ ⟨by go_simp, by go_simp⟩).mono ?_
  clear y0 y1 k0 k1 k2 k3 v0 f0 v1 f1 v2 f2 v3 f3 v4 f4 z0
  rintro e w2 ⟨rfl, hb⟩
  have b2 := ((Below.refl w1.heap.size w1).alloc (Nat.le_refl _) _).trans (hb.mono (by simp))
  have K2 := Lib.hid (K1.out.later b2)
  have HK2 := Lib.hid (HK.out.later b2)
  clear hb b2 K1 HK
  have k0 : w2.cell? ⟨w.heap.size, 0, none⟩ = some (.int .i64 a) := (K2.out).fixed (w.heap.size, 0, .int .i64 a) (by simp)
  have k1 : w2.cell? ⟨w.heap.size, 1, none⟩ = some (.int .i64 b) := (K2.out).fixed (w.heap.size, 1, .int .i64 b) (by simp)
  have k2 : w2.cell? ⟨w.heap.size + 1, 0, none⟩ = some (.int .i64 c) := (K2.out).fixed (w.heap.size + 1, 0, .int .i64 c) (by simp)
  have k3 : w2.cell? ⟨w.heap.size + 1, 1, none⟩ = some (.int .i64 d) := (K2.out).fixed (w.heap.size + 1, 1, .int .i64 d) (by simp)
  have v0 : w2.cell? ⟨w.heap.size + 1 + 1, 0, none⟩ = some (valAt w2 ⟨w.heap.size + 1 + 1, 0, none⟩) := (K2.out).there (w.heap.size + 1 + 1, 0) (by simp)
  have f0 : w2.frozen? ⟨w.heap.size + 1 + 1, 0, none⟩ = false := (K2.out).froz (w.heap.size + 1 + 1, 0) (by simp)
  have v1 : w2.cell? ⟨w.heap.size + 1 + 1, 1, none⟩ = some (valAt w2 ⟨w.heap.size + 1 + 1, 1, none⟩) := (K2.out).there (w.heap.size + 1 + 1, 1) (by simp)
  have f1 : w2.frozen? ⟨w.heap.size + 1 + 1, 1, none⟩ = false := (K2.out).froz (w.heap.size + 1 + 1, 1) (by simp)
  have v2 : w2.cell? ⟨w.heap.size + 1 + 1, 2, none⟩ = some (valAt w2 ⟨w.heap.size + 1 + 1, 2, none⟩) := (K2.out).there (w.heap.size + 1 + 1, 2) (by simp)
  have f2 : w2.frozen? ⟨w.heap.size + 1 + 1, 2, none⟩ = false := (K2.out).froz (w.heap.size + 1 + 1, 2) (by simp)
  have v3 : w2.cell? ⟨w.heap.size + 1 + 1, 3, none⟩ = some (valAt w2 ⟨w.heap.size + 1 + 1, 3, none⟩) := (K2.out).there (w.heap.size + 1 + 1, 3) (by simp)
  have f3 : w2.frozen? ⟨w.heap.size + 1 + 1, 3, none⟩ = false := (K2.out).froz (w.heap.size + 1 + 1, 3) (by simp)
  have v4 : w2.cell? ⟨w.heap.size + 1 + 1, 4, none⟩ = some (valAt w2 ⟨w.heap.size + 1 + 1, 4, none⟩) := (K2.out).there (w.heap.size + 1 + 1, 4) (by simp)
  have f4 : w2.frozen? ⟨w.heap.size + 1 + 1, 4, none⟩ = false := (K2.out).froz (w.heap.size + 1 + 1, 4) (by simp)
  have z0 : w.heap.size + 1 + 1 < w2.heap.size := (K2.out).lt (w.heap.size + 1 + 1, 0) (by simp)
  go_wp2
  have bl := K2.out.bl
  refine bodyPost_ret (v := .tuple #[.agg #[.int .i64 0, .int .i64 0, .bool false, .bool false, .bool false], .int .i64 2]) (by simp [results, Try.results21, go_sem, v0, v1, v2, v3, v4]) rfl ⟨rfl, ?_⟩
  exact ((((bl.setCell (by simp; omega) _).setCell (by simp; omega) _).setCell (by simp; omega) _).setCell (by simp; omega) _).setCell (by simp; omega) _

set_option maxRecDepth 100000 in
set_option maxHeartbeats 4000000 in
theorem pbinary_ok (op k a b c d x y : Int) (s t u : Bool) (w : World) (B : ∀ w, Hid (Calls Try.prog 37 #[.int .i64 op, .int .i64 k] w (BofEff a b c d x y s t u w))) (A : Are2 k a b c d true) :
    Calls Try.prog 21 #[.int .i64 op, .int .i64 k, .agg #[.int .i64 a, .int .i64 b], .agg #[.int .i64 c, .int .i64 d]] w fun e w' => e = .returned (.tuple #[.agg #[.int .i64 x, .int .i64 y, .bool s, .bool t, .bool u], .int .i64 0]) ∧ Below w.heap.size w w' := by
  go_enter Try.func21, Try.ntmps21
  go_wp2_with fail
  have A := Lib.hid A
  have KI : Keeps (w.heap.size) [(w.heap.size, 0, .int .i64 a), (w.heap.size, 1, .int .i64 b), (w.heap.size + 1, 0, .int .i64 c), (w.heap.size + 1, 1, .int .i64 d)] [(w.heap.size + 1 + 1, 0), (w.heap.size + 1 + 1, 1), (w.heap.size + 1 + 1, 2), (w.heap.size + 1 + 1, 3), (w.heap.size + 1 + 1, 4)] w (((w.alloc (.cells #[.int .i64 a, .int .i64 b] 23)).alloc (.cells #[.int .i64 c, .int .i64 d] 23)).alloc (.cells #[.int .i64 0, .int .i64 0, .bool false, .bool false, .bool false] 37)) := by
    refine ⟨?_, ?_, ?_, ?_, by simp; try omega, (((Below.refl _ _).alloc (Nat.le_refl _) _).alloc (by simp) _).alloc (by simp; omega) _⟩
    · simp only [List.forall_mem_cons, List.not_mem_nil, false_imp_iff, implies_true, and_true]
      exact ⟨by go_simp, by go_simp, by go_simp, by go_simp⟩
    · simp only [List.forall_mem_cons, List.not_mem_nil, false_imp_iff, implies_true, and_true]
      exact ⟨valAt_some (by go_simp), valAt_some (by go_simp), valAt_some (by go_simp), valAt_some (by go_simp), valAt_some (by go_simp)⟩
    · simp only [List.forall_mem_cons, List.not_mem_nil, false_imp_iff, implies_true, and_true]
      exact ⟨by go_simp, by go_simp, by go_simp, by go_simp, by go_simp⟩
    · simp only [List.forall_mem_cons, List.not_mem_nil, false_imp_iff, implies_true, and_true]
      exact ⟨by simp; try omega, by simp; try omega, by simp; try omega, by simp; try omega, by simp; try omega⟩
  have KI := Lib.hid KI
  generalize (((w.alloc (.cells #[.int .i64 a, .int .i64 b] 23)).alloc (.cells #[.int .i64 c, .int .i64 d] 23)).alloc (.cells #[.int .i64 0, .int .i64 0, .bool false, .bool false, .bool false] 37)) = W at *
  refine (B _).out.mono ?_
  rintro e w1 ⟨g, cap, rfl, hb, hE, hK⟩
  have K1 := Lib.hid (KI.out.later hb)
  have HK := Lib.hid hK
  have eg : ∀ args w, (callFunc g args).run Try.prog w = .ok (.enter g args) w := hE
  clear hb KI hK hE
  have k0 : w1.cell? ⟨w.heap.size, 0, none⟩ = some (.int .i64 a) := (K1.out).fixed (w.heap.size, 0, .int .i64 a) (by simp)
  have k1 : w1.cell? ⟨w.heap.size, 1, none⟩ = some (.int .i64 b) := (K1.out).fixed (w.heap.size, 1, .int .i64 b) (by simp)
  have k2 : w1.cell? ⟨w.heap.size + 1, 0, none⟩ = some (.int .i64 c) := (K1.out).fixed (w.heap.size + 1, 0, .int .i64 c) (by simp)
  have k3 : w1.cell? ⟨w.heap.size + 1, 1, none⟩ = some (.int .i64 d) := (K1.out).fixed (w.heap.size + 1, 1, .int .i64 d) (by simp)
  have v0 : w1.cell? ⟨w.heap.size + 1 + 1, 0, none⟩ = some (valAt w1 ⟨w.heap.size + 1 + 1, 0, none⟩) := (K1.out).there (w.heap.size + 1 + 1, 0) (by simp)
  have f0 : w1.frozen? ⟨w.heap.size + 1 + 1, 0, none⟩ = false := (K1.out).froz (w.heap.size + 1 + 1, 0) (by simp)
  have v1 : w1.cell? ⟨w.heap.size + 1 + 1, 1, none⟩ = some (valAt w1 ⟨w.heap.size + 1 + 1, 1, none⟩) := (K1.out).there (w.heap.size + 1 + 1, 1) (by simp)
  have f1 : w1.frozen? ⟨w.heap.size + 1 + 1, 1, none⟩ = false := (K1.out).froz (w.heap.size + 1 + 1, 1) (by simp)
  have v2 : w1.cell? ⟨w.heap.size + 1 + 1, 2, none⟩ = some (valAt w1 ⟨w.heap.size + 1 + 1, 2, none⟩) := (K1.out).there (w.heap.size + 1 + 1, 2) (by simp)
  have f2 : w1.frozen? ⟨w.heap.size + 1 + 1, 2, none⟩ = false := (K1.out).froz (w.heap.size + 1 + 1, 2) (by simp)
  have v3 : w1.cell? ⟨w.heap.size + 1 + 1, 3, none⟩ = some (valAt w1 ⟨w.heap.size + 1 + 1, 3, none⟩) := (K1.out).there (w.heap.size + 1 + 1, 3) (by simp)
  have f3 : w1.frozen? ⟨w.heap.size + 1 + 1, 3, none⟩ = false := (K1.out).froz (w.heap.size + 1 + 1, 3) (by simp)
  have v4 : w1.cell? ⟨w.heap.size + 1 + 1, 4, none⟩ = some (valAt w1 ⟨w.heap.size + 1 + 1, 4, none⟩) := (K1.out).there (w.heap.size + 1 + 1, 4) (by simp)
  have f4 : w1.frozen? ⟨w.heap.size + 1 + 1, 4, none⟩ = false := (K1.out).froz (w.heap.size + 1 + 1, 4) (by simp)
  have z0 : w.heap.size + 1 + 1 < w1.heap.size := (K1.out).lt (w.heap.size + 1 + 1, 0) (by simp)
  have y0 : w.heap.size < w1.heap.size := by omega
  have y1 : w.heap.size + 1 < w1.heap.size := by omega
  go_wp2_with fail
  refine (A.out _ _ _ (by simp) (by omega) ⟨by go_simp, by go_simp⟩ ⟨by go_simp, by go_simp⟩).mono ?_
  clear y0 y1 k0 k1 k2 k3 v0 f0 v1 f1 v2 f2 v3 f3 v4 f4 z0
  rintro e w2 ⟨rfl, hb⟩
  have b2 := ((Below.refl w1.heap.size w1).alloc (Nat.le_refl _) _).trans (hb.mono (by simp))
  have K2 := Lib.hid (K1.out.later b2)
  have HK2 := Lib.hid (HK.out.later b2)
  clear hb b2 K1 HK
  have k0 : w2.cell? ⟨w.heap.size, 0, none⟩ = some (.int .i64 a) := (K2.out).fixed (w.heap.size, 0, .int .i64 a) (by simp)
  have k1 : w2.cell? ⟨w.heap.size, 1, none⟩ = some (.int .i64 b) := (K2.out).fixed (w.heap.size, 1, .int .i64 b) (by simp)
  have k2 : w2.cell? ⟨w.heap.size + 1, 0, none⟩ = some (.int .i64 c) := (K2.out).fixed (w.heap.size + 1, 0, .int .i64 c) (by simp)
  have k3 : w2.cell? ⟨w.heap.size + 1, 1, none⟩ = some (.int .i64 d) := (K2.out).fixed (w.heap.size + 1, 1, .int .i64 d) (by simp)
  have v0 : w2.cell? ⟨w.heap.size + 1 + 1, 0, none⟩ = some (valAt w2 ⟨w.heap.size + 1 + 1, 0, none⟩) := (K2.out).there (w.heap.size + 1 + 1, 0) (by simp)
  have f0 : w2.frozen? ⟨w.heap.size + 1 + 1, 0, none⟩ = false := (K2.out).froz (w.heap.size + 1 + 1, 0) (by simp)
  have v1 : w2.cell? ⟨w.heap.size + 1 + 1, 1, none⟩ = some (valAt w2 ⟨w.heap.size + 1 + 1, 1, none⟩) := (K2.out).there (w.heap.size + 1 + 1, 1) (by simp)
  have f1 : w2.frozen? ⟨w.heap.size + 1 + 1, 1, none⟩ = false := (K2.out).froz (w.heap.size + 1 + 1, 1) (by simp)
  have v2 : w2.cell? ⟨w.heap.size + 1 + 1, 2, none⟩ = some (valAt w2 ⟨w.heap.size + 1 + 1, 2, none⟩) := (K2.out).there (w.heap.size + 1 + 1, 2) (by simp)
  have f2 : w2.frozen? ⟨w.heap.size + 1 + 1, 2, none⟩ = false := (K2.out).froz (w.heap.size + 1 + 1, 2) (by simp)
  have v3 : w2.cell? ⟨w.heap.size + 1 + 1, 3, none⟩ = some (valAt w2 ⟨w.heap.size + 1 + 1, 3, none⟩) := (K2.out).there (w.heap.size + 1 + 1, 3) (by simp)
  have f3 : w2.frozen? ⟨w.heap.size + 1 + 1, 3, none⟩ = false := (K2.out).froz (w.heap.size + 1 + 1, 3) (by simp)
  have v4 : w2.cell? ⟨w.heap.size + 1 + 1, 4, none⟩ = some (valAt w2 ⟨w.heap.size + 1 + 1, 4, none⟩) := (K2.out).there (w.heap.size + 1 + 1, 4) (by simp)
  have f4 : w2.frozen? ⟨w.heap.size + 1 + 1, 4, none⟩ = false := (K2.out).froz (w.heap.size + 1 + 1, 4) (by simp)
  have z0 : w.heap.size + 1 + 1 < w2.heap.size := (K2.out).lt (w.heap.size + 1 + 1, 0) (by simp)
  go_wp2_with fail
  refine (HK2.out w2 (Below.refl _ _)).mono ?_
  clear k0 k1 k2 k3 v0 f0 v1 f1 v2 f2 v3 f3 v4 f4 z0
  unfold EffV
  rintro e w3 ⟨rfl, hb⟩
  have K3 := Lib.hid (K2.out.later hb)
  clear hb K2 HK2
  have k0 : w3.cell? ⟨w.heap.size, 0, none⟩ = some (.int .i64 a) := (K3.out).fixed (w.heap.size, 0, .int .i64 a) (by simp)
  have k1 : w3.cell? ⟨w.heap.size, 1, none⟩ = some (.int .i64 b) := (K3.out).fixed (w.heap.size, 1, .int .i64 b) (by simp)
  have k2 : w3.cell? ⟨w.heap.size + 1, 0, none⟩ = some (.int .i64 c) := (K3.out).fixed (w.heap.size + 1, 0, .int .i64 c) (by simp)
  have k3 : w3.cell? ⟨w.heap.size + 1, 1, none⟩ = some (.int .i64 d) := (K3.out).fixed (w.heap.size + 1, 1, .int .i64 d) (by simp)
  have v0 : w3.cell? ⟨w.heap.size + 1 + 1, 0, none⟩ = some (valAt w3 ⟨w.heap.size + 1 + 1, 0, none⟩) := (K3.out).there (w.heap.size + 1 + 1, 0) (by simp)
  have f0 : w3.frozen? ⟨w.heap.size + 1 + 1, 0, none⟩ = false := (K3.out).froz (w.heap.size + 1 + 1, 0) (by simp)
  have v1 : w3.cell? ⟨w.heap.size + 1 + 1, 1, none⟩ = some (valAt w3 ⟨w.heap.size + 1 + 1, 1, none⟩) := (K3.out).there (w.heap.size + 1 + 1, 1) (by simp)
  have f1 : w3.frozen? ⟨w.heap.size + 1 + 1, 1, none⟩ = false := (K3.out).froz (w.heap.size + 1 + 1, 1) (by simp)
  have v2 : w3.cell? ⟨w.heap.size + 1 + 1, 2, none⟩ = some (valAt w3 ⟨w.heap.size + 1 + 1, 2, none⟩) := (K3.out).there (w.heap.size + 1 + 1, 2) (by simp)
  have f2 : w3.frozen? ⟨w.heap.size + 1 + 1, 2, none⟩ = false := (K3.out).froz (w.heap.size + 1 + 1, 2) (by simp)
  have v3 : w3.cell? ⟨w.heap.size + 1 + 1, 3, none⟩ = some (valAt w3 ⟨w.heap.size + 1 + 1, 3, none⟩) := (K3.out).there (w.heap.size + 1 + 1, 3) (by simp)
  have f3 : w3.frozen? ⟨w.heap.size + 1 + 1, 3, none⟩ = false := (K3.out).froz (w.heap.size + 1 + 1, 3) (by simp)
  have v4 : w3.cell? ⟨w.heap.size + 1 + 1, 4, none⟩ = some (valAt w3 ⟨w.heap.size + 1 + 1, 4, none⟩) := (K3.out).there (w.heap.size + 1 + 1, 4) (by simp)
  have f4 : w3.frozen? ⟨w.heap.size + 1 + 1, 4, none⟩ = false := (K3.out).froz (w.heap.size + 1 + 1, 4) (by simp)
  have z0 : w.heap.size + 1 + 1 < w3.heap.size := (K3.out).lt (w.heap.size + 1 + 1, 0) (by simp)
  go_wp2
  have bl := K3.out.bl
  refine bodyPost_ret (v := .tuple #[.agg #[.int .i64 x, .int .i64 y, .bool s, .bool t, .bool u], .int .i64 0]) (by simp [results, Try.results21, go_sem, v0, v1, v2, v3, v4]) rfl ⟨rfl, ?_⟩
  exact ((((bl.setCell (by simp; omega) _).setCell (by simp; omega) _).setCell (by simp; omega) _).setCell (by simp; omega) _).setCell (by simp; omega) _

end Go.Proofs.Ytomjcpgjlhencaa
