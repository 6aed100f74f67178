/- RngZB, RngZC, RngZD, RngZE, RngZF, RngZG. -/
import Derived.Test.YtgkhldbnljdeiaaPutRules
import Derived.Test.YtgkhldbnljdeiaaQRngZA
import Derived.Test.YtgkhldbnljdeiaaQRngSToRngU
import Derived.Test.YtgkhldbnljdeiaaQGlueAToRngN
set_option maxRecDepth 100000
set_option maxHeartbeats 4000000
set_option linter.unusedSimpArgs false
set_option linter.unusedVariables false
namespace Go.Proofs.Ytgkhldbnljdeiaa
open Go.RowKit RangesMath
attribute [local go_sem] World.setCell_self
/-- A map of operators has no answer for op. -/
def FindNo (op : Int) (w : World) (e : Ending) (w' : World) : Prop := ∃ m, e = .returned m ∧ Below w.heap.size w w' ∧ (Instr.lookup 100 m (.int .i64 op) true).run Try.prog w' = .ok (.tuple #[.nilFunc, .bool false]) w'
/-- From this world on the function g, with what it has captured, makes this effect of two ranges. -/
def Makes (g : Nat) (cap : Array Value) (a b c d x y : Int) (s t u : Bool) (w : World) : Prop := ∀ w2, Below w.heap.size w w2 → Calls Try.prog g (#[.agg #[.int .i64 a, .int .i64 b], .agg #[.int .i64 c, .int .i64 d]] ++ cap) w2 fun e w' => e = .returned (EffV x y s t u) ∧ Below w2.heap.size w2 w'
/-- A map of operators answers op by a function that makes this effect. -/
def FindEff (op a b c d x y : Int) (s t u : Bool) (w : World) (e : Ending) (w' : World) : Prop := ∃ m g cap, e = .returned m ∧ Below w.heap.size w w' ∧ (Instr.lookup 100 m (.int .i64 op) true).run Try.prog w' = .ok (.tuple #[.func (.func g) #[] cap, .bool true]) w' ∧ Enters g ∧ Makes g cap a b c d x y s t u w'
def BofEff (a b c d x y : Int) (s t u : Bool) (w : World) (e : Ending) (w' : World) : Prop := ∃ g cap, e = .returned (.tuple #[.func (.func g) #[] cap, .bool true]) ∧ Below w.heap.size w w' ∧ Enters g ∧ Makes g cap a b c d x y s t u w'
def BofNo (w : World) (e : Ending) (w' : World) : Prop := e = .returned (.tuple #[.nilFunc, .bool false]) ∧ Below w.heap.size w w'
theorem Makes.later {g : Nat} {cap : Array Value} {a b c d x y : Int} {s t u : Bool} {w w' : World} (h : Makes g cap a b c d x y s t u w) (hb : Below w.heap.size w w') : Makes g cap a b c d x y s t u w' := fun w2 h2 => h w2 (hb.trans (h2.mono hb.size))
theorem pbof_arith_1 (op a b c d x y : Int) (s t u : Bool) (w : World) (C : ∀ w, Hid (Calls Try.prog 45 #[.int .i64 1] w (CompOut [(op, .nilFunc)] w))) (N : ∀ w, Hid (Calls Try.prog 59 #[.int .i64 1] w (FindNo op w))) (Y : ∀ w, Hid (Calls Try.prog 60 #[.int .i64 1] w (FindEff op a b c d x y s t u w))) :
   Calls Try.prog 37 #[.int .i64 op, .int .i64 1] w (BofEff a b c d x y s t u w) := by
 have q0 := run_neq_nil
 go_enter Try.func37, Try.ntmps37
 go_wp2_with fail
 refine (C _).out.mono ?_
 rintro e w1 ⟨m, rfl, hb1, hM⟩
 have L := hM _ (List.mem_singleton.2 rfl) w1 (Below.refl _ _)
 dsimp only at L
 clear hM
 go_wp2_with fail
 clear L
 refine (N _).out.mono ?_
 rintro e w2 ⟨m2, rfl, hb2, L2⟩
 go_wp2_with fail
 clear L2
 refine (Y _).out.mono ?_
 rintro e w3 ⟨m3, g, cap, rfl, hb3, L3, hE, hK⟩
 have HK := Lib.hid hK
 have HE := Lib.hid hE
 clear hK hE
 go_wp2
 go_ret2
 exact ⟨g, cap, rfl, (hb1.trans (hb2.mono hb1.size)).trans (hb3.mono (Nat.le_trans hb1.size hb2.size)), HE.out, HK.out⟩
theorem pbof_none_1 (op : Int) (w : World) (C : ∀ w, Hid (Calls Try.prog 45 #[.int .i64 1] w (CompOut [(op, .nilFunc)] w))) (N : ∀ w, Hid (Calls Try.prog 59 #[.int .i64 1] w (FindNo op w))) (Y : ∀ w, Hid (Calls Try.prog 60 #[.int .i64 1] w (FindNo op w))) :
   Calls Try.prog 37 #[.int .i64 op, .int .i64 1] w (BofNo w) := by
 have q0 := run_neq_nil
 go_enter Try.func37, Try.ntmps37
 go_wp2_with fail
 refine (C _).out.mono ?_
 rintro e w1 ⟨m, rfl, hb1, hM⟩
 have L := hM _ (List.mem_singleton.2 rfl) w1 (Below.refl _ _)
 dsimp only at L
 clear hM
 go_wp2_with fail
 clear L
 refine (N _).out.mono ?_
 rintro e w2 ⟨m2, rfl, hb2, L2⟩
 go_wp2_with fail
 clear L2
 refine (Y _).out.mono ?_
 rintro e w3 ⟨m3, rfl, hb3, L3⟩
 go_wp2
 go_ret2
 exact ⟨rfl, (hb1.trans (hb2.mono hb1.size)).trans (hb3.mono (Nat.le_trans hb1.size hb2.size))⟩
theorem pbof_bits_1 (op a b c d x y : Int) (s t u : Bool) (w : World) (C : ∀ w, Hid (Calls Try.prog 45 #[.int .i64 1] w (CompOut [(op, .nilFunc)] w))) (Y : ∀ w, Hid (Calls Try.prog 59 #[.int .i64 1] w (FindEff op a b c d x y s t u w))) :
   Calls Try.prog 37 #[.int .i64 op, .int .i64 1] w (BofEff a b c d x y s t u w) := by
 have q0 := run_neq_nil
 go_enter Try.func37, Try.ntmps37
 go_wp2_with fail
 refine (C _).out.mono ?_
 rintro e w1 ⟨m, rfl, hb1, hM⟩
 have L := hM _ (List.mem_singleton.2 rfl) w1 (Below.refl _ _)
 dsimp only at L
 clear hM
 go_wp2_with fail
 clear L
 refine (Y _).out.mono ?_
 rintro e w3 ⟨m3, g, cap, rfl, hb3, L3, hE, hK⟩
 have HK := Lib.hid hK
 have HE := Lib.hid hE
 clear hK hE
 go_wp2
 go_ret2
 exact ⟨g, cap, rfl, hb1.trans (hb3.mono hb1.size), HE.out, HK.out⟩
theorem pbof_arith_2 (op a b c d x y : Int) (s t u : Bool) (w : World) (C : ∀ w, Hid (Calls Try.prog 45 #[.int .i64 2] w (CompOut [(op, .nilFunc)] w))) (N : ∀ w, Hid (Calls Try.prog 59 #[.int .i64 2] w (FindNo op w))) (Y : ∀ w, Hid (Calls Try.prog 60 #[.int .i64 2] w (FindEff op a b c d x y s t u w))) :
   Calls Try.prog 37 #[.int .i64 op, .int .i64 2] w (BofEff a b c d x y s t u w) := by
 have q0 := run_neq_nil
 go_enter Try.func37, Try.ntmps37
 go_wp2_with fail
 refine (C _).out.mono ?_
 rintro e w1 ⟨m, rfl, hb1, hM⟩
 have L := hM _ (List.mem_singleton.2 rfl) w1 (Below.refl _ _)
 dsimp only at L
 clear hM
 go_wp2_with fail
 clear L
 refine (N _).out.mono ?_
 rintro e w2 ⟨m2, rfl, hb2, L2⟩
 go_wp2_with fail
 clear L2
 refine (Y _).out.mono ?_
 rintro e w3 ⟨m3, g, cap, rfl, hb3, L3, hE, hK⟩
 have HK := Lib.hid hK
 have HE := Lib.hid hE
 clear hK hE
 go_wp2
 go_ret2
 exact ⟨g, cap, rfl, (hb1.trans (hb2.mono hb1.size)).trans (hb3.mono (Nat.le_trans hb1.size hb2.size)), HE.out, HK.out⟩
theorem pbof_none_2 (op : Int) (w : World) (C : ∀ w, Hid (Calls Try.prog 45 #[.int .i64 2] w (CompOut [(op, .nilFunc)] w))) (N : ∀ w, Hid (Calls Try.prog 59 #[.int .i64 2] w (FindNo op w))) (Y : ∀ w, Hid (Calls Try.prog 60 #[.int .i64 2] w (FindNo op w))) :
   Calls Try.prog 37 #[.int .i64 op, .int .i64 2] w (BofNo w) := by
 have q0 := run_neq_nil
 go_enter Try.func37, Try.ntmps37
 go_wp2_with fail
 refine (C _).out.mono ?_
 rintro e w1 ⟨m, rfl, hb1, hM⟩
 have L := hM _ (List.mem_singleton.2 rfl) w1 (Below.refl _ _)
 dsimp only at L
 clear hM
 go_wp2_with fail
 clear L
 refine (N _).out.mono ?_
 rintro e w2 ⟨m2, rfl, hb2, L2⟩
 go_wp2_with fail
 clear L2
 refine (Y _).out.mono ?_
 rintro e w3 ⟨m3, rfl, hb3, L3⟩
 go_wp2
 go_ret2
 exact ⟨rfl, (hb1.trans (hb2.mono hb1.size)).trans (hb3.mono (Nat.le_trans hb1.size hb2.size))⟩
theorem pbof_bits_2 (op a b c d x y : Int) (s t u : Bool) (w : World) (C : ∀ w, Hid (Calls Try.prog 45 #[.int .i64 2] w (CompOut [(op, .nilFunc)] w))) (Y : ∀ w, Hid (Calls Try.prog 59 #[.int .i64 2] w (FindEff op a b c d x y s t u w))) :
   Calls Try.prog 37 #[.int .i64 op, .int .i64 2] w (BofEff a b c d x y s t u w) := by
 have q0 := run_neq_nil
 go_enter Try.func37, Try.ntmps37
 go_wp2_with fail
 refine (C _).out.mono ?_
 rintro e w1 ⟨m, rfl, hb1, hM⟩
 have L := hM _ (List.mem_singleton.2 rfl) w1 (Below.refl _ _)
 dsimp only at L
 clear hM
 go_wp2_with fail
 clear L
 refine (Y _).out.mono ?_
 rintro e w3 ⟨m3, g, cap, rfl, hb3, L3, hE, hK⟩
 have HK := Lib.hid hK
 have HE := Lib.hid hE
 clear hK hE
 go_wp2
 go_ret2
 exact ⟨g, cap, rfl, hb1.trans (hb3.mono hb1.size), HE.out, HK.out⟩
theorem pbof_con (op a b c d x y : Int) (s t u : Bool) (w : World) (C : ∀ w, Hid (Calls Try.prog 45 #[.int .i64 3] w (CompOut [(op, .nilFunc)] w))) (Y : ∀ w, Hid (Calls Try.prog 61 #[] w (FindEff op a b c d x y s t u w))) :
   Calls Try.prog 37 #[.int .i64 op, .int .i64 3] w (BofEff a b c d x y s t u w) := by
 have q0 := run_neq_nil
 go_enter Try.func37, Try.ntmps37
 go_wp2_with fail
 refine (C _).out.mono ?_
 rintro e w1 ⟨m, rfl, hb1, hM⟩
 have L := hM _ (List.mem_singleton.2 rfl) w1 (Below.refl _ _)
 dsimp only at L
 clear hM
 go_wp2_with fail
 clear L
 refine (Y _).out.mono ?_
 rintro e w3 ⟨m3, g, cap, rfl, hb3, L3, hE, hK⟩
 have HK := Lib.hid hK
 have HE := Lib.hid hE
 clear hK hE
 go_wp2
 go_ret2
 exact ⟨g, cap, rfl, hb1.trans (hb3.mono hb1.size), HE.out, HK.out⟩
theorem pbof_none_3 (op : Int) (w : World) (C : ∀ w, Hid (Calls Try.prog 45 #[.int .i64 3] w (CompOut [(op, .nilFunc)] w))) (Y : ∀ w, Hid (Calls Try.prog 61 #[] w (FindNo op w))) :
   Calls Try.prog 37 #[.int .i64 op, .int .i64 3] w (BofNo w) := by
 have q0 := run_neq_nil
 go_enter Try.func37, Try.ntmps37
 go_wp2_with fail
 refine (C _).out.mono ?_
 rintro e w1 ⟨m, rfl, hb1, hM⟩
 have L := hM _ (List.mem_singleton.2 rfl) w1 (Below.refl _ _)
 dsimp only at L
 clear hM
 go_wp2_with fail
 clear L
 refine (Y _).out.mono ?_
 rintro e w3 ⟨m3, rfl, hb3, L3⟩
 go_wp2
 go_ret2
 exact ⟨rfl, hb1.trans (hb3.mono hb1.size)⟩
theorem pbof_none (op k : Int) (w : World) (k1 : (k == 1) = false) (k2 : (k == 2) = false) (k3 : (k == 3) = false) (C : ∀ w, Hid (Calls Try.prog 45 #[.int .i64 k] w (CompOut [(op, .nilFunc)] w))) :
   Calls Try.prog 37 #[.int .i64 op, .int .i64 k] w (BofNo w) := by
 have q0 := run_neq_nil
 go_enter Try.func37, Try.ntmps37
 go_wp2_with fail
 refine (C _).out.mono ?_
 rintro e w1 ⟨m, rfl, hb1, hM⟩
 have L := hM _ (List.mem_singleton.2 rfl) w1 (Below.refl _ _)
 dsimp only at L
 clear hM
 go_wp2
 go_ret2
 exact ⟨rfl, hb1⟩
theorem pbinary_no (op k a b c d : Int) (w : World) (B : ∀ w, Hid (Calls Try.prog 37 #[.int .i64 op, .int .i64 k] w (BofNo w))) :
   Calls Try.prog 21 #[.int .i64 op, .int .i64 k, .agg #[.int .i64 a, .int .i64 b], .agg #[.int .i64 c, .int .i64 d]] w fun e w' => e = .returned (.tuple #[.agg #[.int .i64 0, .int .i64 0, .bool false, .bool false, .bool false], .int .i64 2]) ∧ Below w.heap.size w w' := by
 go_enter Try.func21, Try.ntmps21
 go_wp2_with fail
 have KI : Keeps (w.heap.size) [(w.heap.size, 0, .int .i64 a), (w.heap.size, 1, .int .i64 b), (w.heap.size + 1, 0, .int .i64 c), (w.heap.size + 1, 1, .int .i64 d)] [(w.heap.size + 1 + 1, 0), (w.heap.size + 1 + 1, 1), (w.heap.size + 1 + 1, 2), (w.heap.size + 1 + 1, 3), (w.heap.size + 1 + 1, 4)] w (((w.alloc (.cells #[.int .i64 a, .int .i64 b] 23)).alloc (.cells #[.int .i64 c, .int .i64 d] 23)).alloc (.cells #[.int .i64 0, .int .i64 0, .bool false, .bool false, .bool false] 37)) := by
   refine ⟨?_, ?_, ?_, ?_, by simp; try omega, (((Below.refl _ _).alloc (Nat.le_refl _) _).alloc (by simp) _).alloc (by simp; omega) _⟩
   · simp only [fm, nm, false_imp_iff, implies_true, and_true]
     exact ⟨by go_simp, by go_simp, by go_simp, by go_simp⟩
   · simp only [fm, nm, false_imp_iff, implies_true, and_true]
     exact ⟨valAt_some (by go_simp), valAt_some (by go_simp), valAt_some (by go_simp), valAt_some (by go_simp), valAt_some (by go_simp)⟩
   · simp only [fm, nm, false_imp_iff, implies_true, and_true]
     exact ⟨by go_simp, by go_simp, by go_simp, by go_simp, by go_simp⟩
   · simp only [fm, nm, false_imp_iff, implies_true, and_true]
     exact ⟨by simp; try omega, by simp; try omega, by simp; try omega, by simp; try omega, by simp; try omega⟩
 have KI := Lib.hid KI
 generalize (((w.alloc (.cells #[.int .i64 a, .int .i64 b] 23)).alloc (.cells #[.int .i64 c, .int .i64 d] 23)).alloc (.cells #[.int .i64 0, .int .i64 0, .bool false, .bool false, .bool false] 37)) = W at *
 refine (B _).out.mono ?_
 rintro e w1 ⟨rfl, hb⟩
 have K1 := Lib.hid (KI.out.later hb)
 clear hb KI
 have k0 : w1.cell? ⟨w.heap.size, 0, none⟩ = some (.int .i64 a) := (K1.out).fixed (w.heap.size, 0, .int .i64 a) (by simp)
 have k1 : w1.cell? ⟨w.heap.size, 1, none⟩ = some (.int .i64 b) := (K1.out).fixed (w.heap.size, 1, .int .i64 b) (by simp)
 have k2 : w1.cell? ⟨w.heap.size + 1, 0, none⟩ = some (.int .i64 c) := (K1.out).fixed (w.heap.size + 1, 0, .int .i64 c) (by simp)
 have k3 : w1.cell? ⟨w.heap.size + 1, 1, none⟩ = some (.int .i64 d) := (K1.out).fixed (w.heap.size + 1, 1, .int .i64 d) (by simp)
 have v0 : w1.cell? ⟨w.heap.size + 1 + 1, 0, none⟩ = some (valAt w1 ⟨w.heap.size + 1 + 1, 0, none⟩) := (K1.out).there (w.heap.size + 1 + 1, 0) (by simp)
 have f0 : w1.frozen? ⟨w.heap.size + 1 + 1, 0, none⟩ = false := (K1.out).froz (w.heap.size + 1 + 1, 0) (by simp)
 have v1 : w1.cell? ⟨w.heap.size + 1 + 1, 1, none⟩ = some (valAt w1 ⟨w.heap.size + 1 + 1, 1, none⟩) := (K1.out).there (w.heap.size + 1 + 1, 1) (by simp)
 have f1 : w1.frozen? ⟨w.heap.size + 1 + 1, 1, none⟩ = false := (K1.out).froz (w.heap.size + 1 + 1, 1) (by simp)
 have v2 : w1.cell? ⟨w.heap.size + 1 + 1, 2, none⟩ = some (valAt w1 ⟨w.heap.size + 1 + 1, 2, none⟩) := (K1.out).there (w.heap.size + 1 + 1, 2) (by simp)
 have f2 : w1.frozen? ⟨w.heap.size + 1 + 1, 2, none⟩ = false := (K1.out).froz (w.heap.size + 1 + 1, 2) (by simp)
 have v3 : w1.cell? ⟨w.heap.size + 1 + 1, 3, none⟩ = some (valAt w1 ⟨w.heap.size + 1 + 1, 3, none⟩) := (K1.out).there (w.heap.size + 1 + 1, 3) (by simp)
 have f3 : w1.frozen? ⟨w.heap.size + 1 + 1, 3, none⟩ = false := (K1.out).froz (w.heap.size + 1 + 1, 3) (by simp)
 have v4 : w1.cell? ⟨w.heap.size + 1 + 1, 4, none⟩ = some (valAt w1 ⟨w.heap.size + 1 + 1, 4, none⟩) := (K1.out).there (w.heap.size + 1 + 1, 4) (by simp)
 have f4 : w1.frozen? ⟨w.heap.size + 1 + 1, 4, none⟩ = false := (K1.out).froz (w.heap.size + 1 + 1, 4) (by simp)
 have z0 : w.heap.size + 1 + 1 < w1.heap.size := (K1.out).lt (w.heap.size + 1 + 1, 0) (by simp)
 go_wp2
 have bl := K1.out.bl
 refine bodyPost_ret (v := .tuple #[.agg #[.int .i64 0, .int .i64 0, .bool false, .bool false, .bool false], .int .i64 2]) (by simp [results, Try.results21, go_sem, v0, v1, v2, v3, v4]) rfl ⟨rfl, ?_⟩
 exact ((((bl.setCell (by simp; omega) _).setCell (by simp; omega) _).setCell (by simp; omega) _).setCell (by simp; omega) _).setCell (by simp; omega) _
theorem pbinary_bad (op k a b c d x y : Int) (s t u : Bool) (w : World) (B : ∀ w, Hid (Calls Try.prog 37 #[.int .i64 op, .int .i64 k] w (BofEff a b c d x y s t u w))) (A : Are2 k a b c d false) :
   Calls Try.prog 21 #[.int .i64 op, .int .i64 k, .agg #[.int .i64 a, .int .i64 b], .agg #[.int .i64 c, .int .i64 d]] w fun e w' => e = .returned (.tuple #[.agg #[.int .i64 0, .int .i64 0, .bool false, .bool false, .bool false], .int .i64 2]) ∧ Below w.heap.size w w' := by
 go_enter Try.func21, Try.ntmps21
 go_wp2_with fail
 have A := Lib.hid A
 have KI : Keeps (w.heap.size) [(w.heap.size, 0, .int .i64 a), (w.heap.size, 1, .int .i64 b), (w.heap.size + 1, 0, .int .i64 c), (w.heap.size + 1, 1, .int .i64 d)] [(w.heap.size + 1 + 1, 0), (w.heap.size + 1 + 1, 1), (w.heap.size + 1 + 1, 2), (w.heap.size + 1 + 1, 3), (w.heap.size + 1 + 1, 4)] w (((w.alloc (.cells #[.int .i64 a, .int .i64 b] 23)).alloc (.cells #[.int .i64 c, .int .i64 d] 23)).alloc (.cells #[.int .i64 0, .int .i64 0, .bool false, .bool false, .bool false] 37)) := by
   refine ⟨?_, ?_, ?_, ?_, by simp; try omega, (((Below.refl _ _).alloc (Nat.le_refl _) _).alloc (by simp) _).alloc (by simp; omega) _⟩
   · simp only [fm, nm, false_imp_iff, implies_true, and_true]
     exact ⟨by go_simp, by go_simp, by go_simp, by go_simp⟩
   · simp only [fm, nm, false_imp_iff, implies_true, and_true]
     exact ⟨valAt_some (by go_simp), valAt_some (by go_simp), valAt_some (by go_simp), valAt_some (by go_simp), valAt_some (by go_simp)⟩
   · simp only [fm, nm, false_imp_iff, implies_true, and_true]
     exact ⟨by go_simp, by go_simp, by go_simp, by go_simp, by go_simp⟩
   · simp only [fm, nm, false_imp_iff, implies_true, and_true]
     exact ⟨by simp; try omega, by simp; try omega, by simp; try omega, by simp; try omega, by simp; try omega⟩
 have KI := Lib.hid KI
 generalize (((w.alloc (.cells #[.int .i64 a, .int .i64 b] 23)).alloc (.cells #[.int .i64 c, .int .i64 d] 23)).alloc (.cells #[.int .i64 0, .int .i64 0, .bool false, .bool false, .bool false] 37)) = W at *
 refine (B _).out.mono ?_
 rintro e w1 ⟨g, cap, rfl, hb, hE, hK⟩
 have K1 := Lib.hid (KI.out.later hb)
 have HK := Lib.hid hK
 have eg : ∀ args w, (callFunc g args).run Try.prog w = .ok (.enter g args) w := hE
 clear hb KI hK hE
 have k0 : w1.cell? ⟨w.heap.size, 0, none⟩ = some (.int .i64 a) := (K1.out).fixed (w.heap.size, 0, .int .i64 a) (by simp)
 have k1 : w1.cell? ⟨w.heap.size, 1, none⟩ = some (.int .i64 b) := (K1.out).fixed (w.heap.size, 1, .int .i64 b) (by simp)
 have k2 : w1.cell? ⟨w.heap.size + 1, 0, none⟩ = some (.int .i64 c) := (K1.out).fixed (w.heap.size + 1, 0, .int .i64 c) (by simp)
 have k3 : w1.cell? ⟨w.heap.size + 1, 1, none⟩ = some (.int .i64 d) := (K1.out).fixed (w.heap.size + 1, 1, .int .i64 d) (by simp)
 have v0 : w1.cell? ⟨w.heap.size + 1 + 1, 0, none⟩ = some (valAt w1 ⟨w.heap.size + 1 + 1, 0, none⟩) := (K1.out).there (w.heap.size + 1 + 1, 0) (by simp)
 have f0 : w1.frozen? ⟨w.heap.size + 1 + 1, 0, none⟩ = false := (K1.out).froz (w.heap.size + 1 + 1, 0) (by simp)
 have v1 : w1.cell? ⟨w.heap.size + 1 + 1, 1, none⟩ = some (valAt w1 ⟨w.heap.size + 1 + 1, 1, none⟩) := (K1.out).there (w.heap.size + 1 + 1, 1) (by simp)
 have f1 : w1.frozen? ⟨w.heap.size + 1 + 1, 1, none⟩ = false := (K1.out).froz (w.heap.size + 1 + 1, 1) (by simp)
 have v2 : w1.cell? ⟨w.heap.size + 1 + 1, 2, none⟩ = some (valAt w1 ⟨w.heap.size + 1 + 1, 2, none⟩) := (K1.out).there (w.heap.size + 1 + 1, 2) (by simp)
 have f2 : w1.frozen? ⟨w.heap.size + 1 + 1, 2, none⟩ = false := (K1.out).froz (w.heap.size + 1 + 1, 2) (by simp)
 have v3 : w1.cell? ⟨w.heap.size + 1 + 1, 3, none⟩ = some (valAt w1 ⟨w.heap.size + 1 + 1, 3, none⟩) := (K1.out).there (w.heap.size + 1 + 1, 3) (by simp)
 have f3 : w1.frozen? ⟨w.heap.size + 1 + 1, 3, none⟩ = false := (K1.out).froz (w.heap.size + 1 + 1, 3) (by simp)
 have v4 : w1.cell? ⟨w.heap.size + 1 + 1, 4, none⟩ = some (valAt w1 ⟨w.heap.size + 1 + 1, 4, none⟩) := (K1.out).there (w.heap.size + 1 + 1, 4) (by simp)
 have f4 : w1.frozen? ⟨w.heap.size + 1 + 1, 4, none⟩ = false := (K1.out).froz (w.heap.size + 1 + 1, 4) (by simp)
 have z0 : w.heap.size + 1 + 1 < w1.heap.size := (K1.out).lt (w.heap.size + 1 + 1, 0) (by simp)
 have y0 : w.heap.size < w1.heap.size := by omega
 have y1 : w.heap.size + 1 < w1.heap.size := by omega
 go_wp2_with fail
 refine (A.out _ _ _ (by simp) (by omega) ⟨by go_simp, by go_simp⟩ ⟨by go_simp, by go_simp⟩).mono ?_
 clear y0 y1 k0 k1 k2 k3 v0 f0 v1 f1 v2 f2 v3 f3 v4 f4 z0
 rintro e w2 ⟨rfl, hb⟩
 have b2 := ((Below.refl w1.heap.size w1).alloc (Nat.le_refl _) _).trans (hb.mono (by simp))
 have K2 := Lib.hid (K1.out.later b2)
 have HK2 := Lib.hid (HK.out.later b2)
 clear hb b2 K1 HK
 have k0 : w2.cell? ⟨w.heap.size, 0, none⟩ = some (.int .i64 a) := (K2.out).fixed (w.heap.size, 0, .int .i64 a) (by simp)
 have k1 : w2.cell? ⟨w.heap.size, 1, none⟩ = some (.int .i64 b) := (K2.out).fixed (w.heap.size, 1, .int .i64 b) (by simp)
 have k2 : w2.cell? ⟨w.heap.size + 1, 0, none⟩ = some (.int .i64 c) := (K2.out).fixed (w.heap.size + 1, 0, .int .i64 c) (by simp)
 have k3 : w2.cell? ⟨w.heap.size + 1, 1, none⟩ = some (.int .i64 d) := (K2.out).fixed (w.heap.size + 1, 1, .int .i64 d) (by simp)
 have v0 : w2.cell? ⟨w.heap.size + 1 + 1, 0, none⟩ = some (valAt w2 ⟨w.heap.size + 1 + 1, 0, none⟩) := (K2.out).there (w.heap.size + 1 + 1, 0) (by simp)
 have f0 : w2.frozen? ⟨w.heap.size + 1 + 1, 0, none⟩ = false := (K2.out).froz (w.heap.size + 1 + 1, 0) (by simp)
 have v1 : w2.cell? ⟨w.heap.size + 1 + 1, 1, none⟩ = some (valAt w2 ⟨w.heap.size + 1 + 1, 1, none⟩) := (K2.out).there (w.heap.size + 1 + 1, 1) (by simp)
 have f1 : w2.frozen? ⟨w.heap.size + 1 + 1, 1, none⟩ = false := (K2.out).froz (w.heap.size + 1 + 1, 1) (by simp)
 have v2 : w2.cell? ⟨w.heap.size + 1 + 1, 2, none⟩ = some (valAt w2 ⟨w.heap.size + 1 + 1, 2, none⟩) := (K2.out).there (w.heap.size + 1 + 1, 2) (by simp)
 have f2 : w2.frozen? ⟨w.heap.size + 1 + 1, 2, none⟩ = false := (K2.out).froz (w.heap.size + 1 + 1, 2) (by simp)
 have v3 : w2.cell? ⟨w.heap.size + 1 + 1, 3, none⟩ = some (valAt w2 ⟨w.heap.size + 1 + 1, 3, none⟩) := (K2.out).there (w.heap.size + 1 + 1, 3) (by simp)
 have f3 : w2.frozen? ⟨w.heap.size + 1 + 1, 3, none⟩ = false := (K2.out).froz (w.heap.size + 1 + 1, 3) (by simp)
 have v4 : w2.cell? ⟨w.heap.size + 1 + 1, 4, none⟩ = some (valAt w2 ⟨w.heap.size + 1 + 1, 4, none⟩) := (K2.out).there (w.heap.size + 1 + 1, 4) (by simp)
 have f4 : w2.frozen? ⟨w.heap.size + 1 + 1, 4, none⟩ = false := (K2.out).froz (w.heap.size + 1 + 1, 4) (by simp)
 have z0 : w.heap.size + 1 + 1 < w2.heap.size := (K2.out).lt (w.heap.size + 1 + 1, 0) (by simp)
 go_wp2
 have bl := K2.out.bl
 refine bodyPost_ret (v := .tuple #[.agg #[.int .i64 0, .int .i64 0, .bool false, .bool false, .bool false], .int .i64 2]) (by simp [results, Try.results21, go_sem, v0, v1, v2, v3, v4]) rfl ⟨rfl, ?_⟩
 exact ((((bl.setCell (by simp; omega) _).setCell (by simp; omega) _).setCell (by simp; omega) _).setCell (by simp; omega) _).setCell (by simp; omega) _
theorem pbinary_ok (op k a b c d x y : Int) (s t u : Bool) (w : World) (B : ∀ w, Hid (Calls Try.prog 37 #[.int .i64 op, .int .i64 k] w (BofEff a b c d x y s t u w))) (A : Are2 k a b c d true) :
   Calls Try.prog 21 #[.int .i64 op, .int .i64 k, .agg #[.int .i64 a, .int .i64 b], .agg #[.int .i64 c, .int .i64 d]] w fun e w' => e = .returned (.tuple #[.agg #[.int .i64 x, .int .i64 y, .bool s, .bool t, .bool u], .int .i64 0]) ∧ Below w.heap.size w w' := by
 go_enter Try.func21, Try.ntmps21
 go_wp2_with fail
 have A := Lib.hid A
 have KI : Keeps (w.heap.size) [(w.heap.size, 0, .int .i64 a), (w.heap.size, 1, .int .i64 b), (w.heap.size + 1, 0, .int .i64 c), (w.heap.size + 1, 1, .int .i64 d)] [(w.heap.size + 1 + 1, 0), (w.heap.size + 1 + 1, 1), (w.heap.size + 1 + 1, 2), (w.heap.size + 1 + 1, 3), (w.heap.size + 1 + 1, 4)] w (((w.alloc (.cells #[.int .i64 a, .int .i64 b] 23)).alloc (.cells #[.int .i64 c, .int .i64 d] 23)).alloc (.cells #[.int .i64 0, .int .i64 0, .bool false, .bool false, .bool false] 37)) := by
   refine ⟨?_, ?_, ?_, ?_, by simp; try omega, (((Below.refl _ _).alloc (Nat.le_refl _) _).alloc (by simp) _).alloc (by simp; omega) _⟩
   · simp only [fm, nm, false_imp_iff, implies_true, and_true]
     exact ⟨by go_simp, by go_simp, by go_simp, by go_simp⟩
   · simp only [fm, nm, false_imp_iff, implies_true, and_true]
     exact ⟨valAt_some (by go_simp), valAt_some (by go_simp), valAt_some (by go_simp), valAt_some (by go_simp), valAt_some (by go_simp)⟩
   · simp only [fm, nm, false_imp_iff, implies_true, and_true]
     exact ⟨by go_simp, by go_simp, by go_simp, by go_simp, by go_simp⟩
   · simp only [fm, nm, false_imp_iff, implies_true, and_true]
     exact ⟨by simp; try omega, by simp; try omega, by simp; try omega, by simp; try omega, by simp; try omega⟩
 have KI := Lib.hid KI
 generalize (((w.alloc (.cells #[.int .i64 a, .int .i64 b] 23)).alloc (.cells #[.int .i64 c, .int .i64 d] 23)).alloc (.cells #[.int .i64 0, .int .i64 0, .bool false, .bool false, .bool false] 37)) = W at *
 refine (B _).out.mono ?_
 rintro e w1 ⟨g, cap, rfl, hb, hE, hK⟩
 have K1 := Lib.hid (KI.out.later hb)
 have HK := Lib.hid hK
 have eg : ∀ args w, (callFunc g args).run Try.prog w = .ok (.enter g args) w := hE
 clear hb KI hK hE
 have k0 : w1.cell? ⟨w.heap.size, 0, none⟩ = some (.int .i64 a) := (K1.out).fixed (w.heap.size, 0, .int .i64 a) (by simp)
 have k1 : w1.cell? ⟨w.heap.size, 1, none⟩ = some (.int .i64 b) := (K1.out).fixed (w.heap.size, 1, .int .i64 b) (by simp)
 have k2 : w1.cell? ⟨w.heap.size + 1, 0, none⟩ = some (.int .i64 c) := (K1.out).fixed (w.heap.size + 1, 0, .int .i64 c) (by simp)
 have k3 : w1.cell? ⟨w.heap.size + 1, 1, none⟩ = some (.int .i64 d) := (K1.out).fixed (w.heap.size + 1, 1, .int .i64 d) (by simp)
 have v0 : w1.cell? ⟨w.heap.size + 1 + 1, 0, none⟩ = some (valAt w1 ⟨w.heap.size + 1 + 1, 0, none⟩) := (K1.out).there (w.heap.size + 1 + 1, 0) (by simp)
 have f0 : w1.frozen? ⟨w.heap.size + 1 + 1, 0, none⟩ = false := (K1.out).froz (w.heap.size + 1 + 1, 0) (by simp)
 have v1 : w1.cell? ⟨w.heap.size + 1 + 1, 1, none⟩ = some (valAt w1 ⟨w.heap.size + 1 + 1, 1, none⟩) := (K1.out).there (w.heap.size + 1 + 1, 1) (by simp)
 have f1 : w1.frozen? ⟨w.heap.size + 1 + 1, 1, none⟩ = false := (K1.out).froz (w.heap.size + 1 + 1, 1) (by simp)
 have v2 : w1.cell? ⟨w.heap.size + 1 + 1, 2, none⟩ = some (valAt w1 ⟨w.heap.size + 1 + 1, 2, none⟩) := (K1.out).there (w.heap.size + 1 + 1, 2) (by simp)
 have f2 : w1.frozen? ⟨w.heap.size + 1 + 1, 2, none⟩ = false := (K1.out).froz (w.heap.size + 1 + 1, 2) (by simp)
 have v3 : w1.cell? ⟨w.heap.size + 1 + 1, 3, none⟩ = some (valAt w1 ⟨w.heap.size + 1 + 1, 3, none⟩) := (K1.out).there (w.heap.size + 1 + 1, 3) (by simp)
 have f3 : w1.frozen? ⟨w.heap.size + 1 + 1, 3, none⟩ = false := (K1.out).froz (w.heap.size + 1 + 1, 3) (by simp)
 have v4 : w1.cell? ⟨w.heap.size + 1 + 1, 4, none⟩ = some (valAt w1 ⟨w.heap.size + 1 + 1, 4, none⟩) := (K1.out).there (w.heap.size + 1 + 1, 4) (by simp)
 have f4 : w1.frozen? ⟨w.heap.size + 1 + 1, 4, none⟩ = false := (K1.out).froz (w.heap.size + 1 + 1, 4) (by simp)
 have z0 : w.heap.size + 1 + 1 < w1.heap.size := (K1.out).lt (w.heap.size + 1 + 1, 0) (by simp)
 have y0 : w.heap.size < w1.heap.size := by omega
 have y1 : w.heap.size + 1 < w1.heap.size := by omega
 go_wp2_with fail
 refine (A.out _ _ _ (by simp) (by omega) ⟨by go_simp, by go_simp⟩ ⟨by go_simp, by go_simp⟩).mono ?_
 clear y0 y1 k0 k1 k2 k3 v0 f0 v1 f1 v2 f2 v3 f3 v4 f4 z0
 rintro e w2 ⟨rfl, hb⟩
 have b2 := ((Below.refl w1.heap.size w1).alloc (Nat.le_refl _) _).trans (hb.mono (by simp))
 have K2 := Lib.hid (K1.out.later b2)
 have HK2 := Lib.hid (HK.out.later b2)
 clear hb b2 K1 HK
 have k0 : w2.cell? ⟨w.heap.size, 0, none⟩ = some (.int .i64 a) := (K2.out).fixed (w.heap.size, 0, .int .i64 a) (by simp)
 have k1 : w2.cell? ⟨w.heap.size, 1, none⟩ = some (.int .i64 b) := (K2.out).fixed (w.heap.size, 1, .int .i64 b) (by simp)
 have k2 : w2.cell? ⟨w.heap.size + 1, 0, none⟩ = some (.int .i64 c) := (K2.out).fixed (w.heap.size + 1, 0, .int .i64 c) (by simp)
 have k3 : w2.cell? ⟨w.heap.size + 1, 1, none⟩ = some (.int .i64 d) := (K2.out).fixed (w.heap.size + 1, 1, .int .i64 d) (by simp)
 have v0 : w2.cell? ⟨w.heap.size + 1 + 1, 0, none⟩ = some (valAt w2 ⟨w.heap.size + 1 + 1, 0, none⟩) := (K2.out).there (w.heap.size + 1 + 1, 0) (by simp)
 have f0 : w2.frozen? ⟨w.heap.size + 1 + 1, 0, none⟩ = false := (K2.out).froz (w.heap.size + 1 + 1, 0) (by simp)
 have v1 : w2.cell? ⟨w.heap.size + 1 + 1, 1, none⟩ = some (valAt w2 ⟨w.heap.size + 1 + 1, 1, none⟩) := (K2.out).there (w.heap.size + 1 + 1, 1) (by simp)
 have f1 : w2.frozen? ⟨w.heap.size + 1 + 1, 1, none⟩ = false := (K2.out).froz (w.heap.size + 1 + 1, 1) (by simp)
 have v2 : w2.cell? ⟨w.heap.size + 1 + 1, 2, none⟩ = some (valAt w2 ⟨w.heap.size + 1 + 1, 2, none⟩) := (K2.out).there (w.heap.size + 1 + 1, 2) (by simp)
 have f2 : w2.frozen? ⟨w.heap.size + 1 + 1, 2, none⟩ = false := (K2.out).froz (w.heap.size + 1 + 1, 2) (by simp)
 have v3 : w2.cell? ⟨w.heap.size + 1 + 1, 3, none⟩ = some (valAt w2 ⟨w.heap.size + 1 + 1, 3, none⟩) := (K2.out).there (w.heap.size + 1 + 1, 3) (by simp)
 have f3 : w2.frozen? ⟨w.heap.size + 1 + 1, 3, none⟩ = false := (K2.out).froz (w.heap.size + 1 + 1, 3) (by simp)
 have v4 : w2.cell? ⟨w.heap.size + 1 + 1, 4, none⟩ = some (valAt w2 ⟨w.heap.size + 1 + 1, 4, none⟩) := (K2.out).there (w.heap.size + 1 + 1, 4) (by simp)
 have f4 : w2.frozen? ⟨w.heap.size + 1 + 1, 4, none⟩ = false := (K2.out).froz (w.heap.size + 1 + 1, 4) (by simp)
 have z0 : w.heap.size + 1 + 1 < w2.heap.size := (K2.out).lt (w.heap.size + 1 + 1, 0) (by simp)
 go_wp2_with fail
 refine (HK2.out w2 (Below.refl _ _)).mono ?_
 clear k0 k1 k2 k3 v0 f0 v1 f1 v2 f2 v3 f3 v4 f4 z0
 unfold EffV
 rintro e w3 ⟨rfl, hb⟩
 have K3 := Lib.hid (K2.out.later hb)
 clear hb K2 HK2
 have k0 : w3.cell? ⟨w.heap.size, 0, none⟩ = some (.int .i64 a) := (K3.out).fixed (w.heap.size, 0, .int .i64 a) (by simp)
 have k1 : w3.cell? ⟨w.heap.size, 1, none⟩ = some (.int .i64 b) := (K3.out).fixed (w.heap.size, 1, .int .i64 b) (by simp)
 have k2 : w3.cell? ⟨w.heap.size + 1, 0, none⟩ = some (.int .i64 c) := (K3.out).fixed (w.heap.size + 1, 0, .int .i64 c) (by simp)
 have k3 : w3.cell? ⟨w.heap.size + 1, 1, none⟩ = some (.int .i64 d) := (K3.out).fixed (w.heap.size + 1, 1, .int .i64 d) (by simp)
 have v0 : w3.cell? ⟨w.heap.size + 1 + 1, 0, none⟩ = some (valAt w3 ⟨w.heap.size + 1 + 1, 0, none⟩) := (K3.out).there (w.heap.size + 1 + 1, 0) (by simp)
 have f0 : w3.frozen? ⟨w.heap.size + 1 + 1, 0, none⟩ = false := (K3.out).froz (w.heap.size + 1 + 1, 0) (by simp)
 have v1 : w3.cell? ⟨w.heap.size + 1 + 1, 1, none⟩ = some (valAt w3 ⟨w.heap.size + 1 + 1, 1, none⟩) := (K3.out).there (w.heap.size + 1 + 1, 1) (by simp)
 have f1 : w3.frozen? ⟨w.heap.size + 1 + 1, 1, none⟩ = false := (K3.out).froz (w.heap.size + 1 + 1, 1) (by simp)
 have v2 : w3.cell? ⟨w.heap.size + 1 + 1, 2, none⟩ = some (valAt w3 ⟨w.heap.size + 1 + 1, 2, none⟩) := (K3.out).there (w.heap.size + 1 + 1, 2) (by simp)
 have f2 : w3.frozen? ⟨w.heap.size + 1 + 1, 2, none⟩ = false := (K3.out).froz (w.heap.size + 1 + 1, 2) (by simp)
 have v3 : w3.cell? ⟨w.heap.size + 1 + 1, 3, none⟩ = some (valAt w3 ⟨w.heap.size + 1 + 1, 3, none⟩) := (K3.out).there (w.heap.size + 1 + 1, 3) (by simp)
 have f3 : w3.frozen? ⟨w.heap.size + 1 + 1, 3, none⟩ = false := (K3.out).froz (w.heap.size + 1 + 1, 3) (by simp)
 have v4 : w3.cell? ⟨w.heap.size + 1 + 1, 4, none⟩ = some (valAt w3 ⟨w.heap.size + 1 + 1, 4, none⟩) := (K3.out).there (w.heap.size + 1 + 1, 4) (by simp)
 have f4 : w3.frozen? ⟨w.heap.size + 1 + 1, 4, none⟩ = false := (K3.out).froz (w.heap.size + 1 + 1, 4) (by simp)
 have z0 : w.heap.size + 1 + 1 < w3.heap.size := (K3.out).lt (w.heap.size + 1 + 1, 0) (by simp)
 go_wp2
 have bl := K3.out.bl
 refine bodyPost_ret (v := .tuple #[.agg #[.int .i64 x, .int .i64 y, .bool s, .bool t, .bool u], .int .i64 0]) (by simp [results, Try.results21, go_sem, v0, v1, v2, v3, v4]) rfl ⟨rfl, ?_⟩
 exact ((((bl.setCell (by simp; omega) _).setCell (by simp; omega) _).setCell (by simp; omega) _).setCell (by simp; omega) _).setCell (by simp; omega) _
end Go.Proofs.Ytgkhldbnljdeiaa
namespace Go.Proofs.Ytgkhldbnljdeiaa
open Go.RowKit RangesMath Go.MapKept
theorem zero_op (w : World) : (zeroValue 72).run Try.prog w = .ok .nilFunc w := by kernel_rfl
theorem find_arith (n : Nat) (op : Int) (h : op < 1 ∨ 7 < op) : Instr.findNow (.int .i64) (.int .i64 op) (arithmeticEs n).toList 0 = some none := by
 have e1 : (op == 1) = false := by simp; omega
 have e2 : (op == 2) = false := by simp; omega
 have e3 : (op == 3) = false := by simp; omega
 have e4 : (op == 4) = false := by simp; omega
 have e5 : (op == 5) = false := by simp; omega
 have e6 : (op == 6) = false := by simp; omega
 have e7 : (op == 7) = false := by simp; omega
 simp only [arithmeticEs, Instr.findNow, Instr.sameNow, if_true]
 rw [e1, e2, e3, e4, e5, e6, e7]
theorem find_bits (n : Nat) (op : Int) (h : op < 8 ∨ 10 < op) : Instr.findNow (.int .i64) (.int .i64 op) (bitwiseEs n).toList 0 = some none := by
 have e1 : (op == 8) = false := by simp; omega
 have e2 : (op == 9) = false := by simp; omega
 have e3 : (op == 10) = false := by simp; omega
 simp only [bitwiseEs, Instr.findNow, Instr.sameNow, if_true]
 rw [e1, e2, e3]
theorem arith_no (k op : Int) (h : op < 1 ∨ 7 < op) (w : World) : Calls Try.prog 60 #[.int .i64 k] w (FindNo op w) := by
 refine (parithmetic k w).mono ?_
 rintro e w' ⟨b, rfl, hb, _, _, _, hB⟩
 exact ⟨_, rfl, hB, run_look_none Try.underlying100 Try.underlying3 hb (find_arith _ op h) (zero_op w') true⟩
theorem bits_no (k op : Int) (h : op < 8 ∨ 10 < op) (w : World) : Calls Try.prog 59 #[.int .i64 k] w (FindNo op w) := by
 refine (pbitwise k w).mono ?_
 rintro e w' ⟨b, rfl, hb, _, _, _, hB⟩
 exact ⟨_, rfl, hB, run_look_none Try.underlying100 Try.underlying3 hb (find_bits _ op h) (zero_op w') true⟩
/-- A closure that has captured its kind makes this effect. -/
def MakesAt (g : Nat) (k a b c d x y : Int) (s t u : Bool) : Prop := ∀ (kb : Nat) (w : World), kb < w.heap.size → w.cell? ⟨kb, 0, none⟩ = some (.int .i64 k) →
 Calls Try.prog g #[.agg #[.int .i64 a, .int .i64 b], .agg #[.int .i64 c, .int .i64 d], .pointer (some ⟨kb, 0, none⟩)] w fun e w' => e = .returned (EffV x y s t u) ∧ Below w.heap.size w w'
theorem arith_eff (op k a b c d x y : Int) (s t u : Bool) (g i : Nat) (hf : ∀ n, Instr.findNow (.int .i64) (.int .i64 op) (arithmeticEs n).toList 0 = some (some (i, .func (.func g) #[] #[.pointer (some ⟨n, 0, none⟩)]))) (hE : Enters g) (hM : MakesAt g k a b c d x y s t u) (w : World) :
   Calls Try.prog 60 #[.int .i64 k] w (FindEff op a b c d x y s t u w) := by
 refine (parithmetic k w).mono ?_
 rintro e w' ⟨b', rfl, hb, hl, hk, hz, hB⟩
 refine ⟨_, g, _, rfl, hB, run_look Try.underlying100 Try.underlying3 hb (hf _) true, hE, ?_⟩
 intro w2 h2
 exact hM w.heap.size w2 (Nat.lt_of_lt_of_le hz h2.size) ((h2.cell (p := ⟨w.heap.size, 0, none⟩) hz).trans hk)
theorem arith_eff3 (k a b c d x y : Int) (s t u : Bool) (hM : ∀ w, Calls Try.prog 96 #[.agg #[.int .i64 a, .int .i64 b], .agg #[.int .i64 c, .int .i64 d]] w fun e w' => e = .returned (EffV x y s t u) ∧ Below w.heap.size w w') (hE : Enters 96) (w : World) :
   Calls Try.prog 60 #[.int .i64 k] w (FindEff 3 a b c d x y s t u w) := by
 refine (parithmetic k w).mono ?_
 rintro e w' ⟨b', rfl, hb, hl, hk, hz, hB⟩
 refine ⟨_, 96, #[], rfl, hB, run_look (i := 2) Try.underlying100 Try.underlying3 hb rfl true, hE, ?_⟩
 intro w2 h2
 exact hM w2
theorem ent_a1 : Enters 89 := fun _ _ => by kernel_rfl
theorem ent_a2 : Enters 92 := fun _ _ => by kernel_rfl
theorem ent_a3 : Enters 96 := fun _ _ => by kernel_rfl
theorem ent_a4 : Enters 98 := fun _ _ => by kernel_rfl
theorem ent_a5 : Enters 100 := fun _ _ => by kernel_rfl
theorem ent_sum : ∀ args w, (callFunc 99 args).run Try.prog w = .ok (.enter 99 args) w := fun _ _ => by kernel_rfl
theorem ent_difference : ∀ args w, (callFunc 52 args).run Try.prog w = .ok (.enter 52 args) w := fun _ _ => by kernel_rfl
theorem ent_product : ∀ args w, (callFunc 91 args).run Try.prog w = .ok (.enter 91 args) w := fun _ _ => by kernel_rfl
theorem ent_quotient : ∀ args w, (callFunc 94 args).run Try.prog w = .ok (.enter 94 args) w := fun _ _ => by kernel_rfl
/-- Binary, where the kind has numbers and the operator is one of arithmetic: from what its closure makes. -/
theorem binary_arith (op k a b c d x y : Int) (s t u : Bool) (hk : k = 1 ∨ k = 2) (ho : 1 ≤ op ∧ op ≤ 7) (F : ∀ w, Calls Try.prog 60 #[.int .i64 k] w (FindEff op a b c d x y s t u w)) (h1 : okB k a b = true) (h2 : okB k c d = true) (w : World) :
   Calls Try.prog 21 #[.int .i64 op, .int .i64 k, .agg #[.int .i64 a, .int .i64 b], .agg #[.int .i64 c, .int .i64 d]] w fun e w' => e = .returned (.tuple #[.agg #[.int .i64 x, .int .i64 y, .bool s, .bool t, .bool u], .int .i64 0]) ∧ Below w.heap.size w w' := by
 have A := are2_any k a b c d
 rw [h1, h2] at A
 have hn : narV k op = .nilFunc := nar_no (by simp only [cmpOK, Bool.and_eq_false_iff, decide_eq_false_iff_not]; omega)
 have C : ∀ w, Hid (Calls Try.prog 45 #[.int .i64 k] w (CompOut [(op, .nilFunc)] w)) := by
   intro w
   have C := pcomp_any k [op] w
   simp only [List.map_cons, List.map_nil, hn] at C
   exact Lib.hid C
 refine pbinary_ok op k a b c d x y s t u w (fun w => Lib.hid ?_) A
 rcases hk with rfl | rfl
 · exact pbof_arith_1 op a b c d x y s t u w C (fun w => Lib.hid (bits_no 1 op (by omega) w)) (fun w => Lib.hid (F w))
 · exact pbof_arith_2 op a b c d x y s t u w C (fun w => Lib.hid (bits_no 2 op (by omega) w)) (fun w => Lib.hid (F w))
theorem sum_fn (ps : List Pr) (h : ∀ p ∈ ps, -9223372036854775808 ≤ p.a ∧ p.b ≤ 9223372036854775807 ∧ -9223372036854775808 ≤ p.c ∧ p.d ≤ 9223372036854775807 ∧ p.a ≤ p.b ∧ p.c ≤ p.d) : NumFn 99 (fun x y => x + y) ps := by
 intro p hp u hu z hz w
 obtain ⟨h1, h2, h3, h4, h5, h6⟩ := h p hp
 exact psum u z w (by omega) (by omega) (by omega) (by omega)
theorem difference_fn (ps : List Pr) (h : ∀ p ∈ ps, -9223372036854775808 ≤ p.a ∧ p.b ≤ 9223372036854775807 ∧ -9223372036854775808 ≤ p.c ∧ p.d ≤ 9223372036854775807 ∧ p.a ≤ p.b ∧ p.c ≤ p.d) : NumFn 52 (fun x y => x - y) ps := by
 intro p hp u hu z hz w
 obtain ⟨h1, h2, h3, h4, h5, h6⟩ := h p hp
 exact pdifference u z w (by omega) (by omega) (by omega) (by omega)
theorem product_fn (ps : List Pr) (h : ∀ p ∈ ps, -9223372036854775808 ≤ p.a ∧ p.b ≤ 9223372036854775807 ∧ -9223372036854775808 ≤ p.c ∧ p.d ≤ 9223372036854775807 ∧ p.a ≤ p.b ∧ p.c ≤ p.d) : NumFn 91 (fun x y => x * y) ps := by
 intro p hp u hu z hz w
 obtain ⟨h1, h2, h3, h4, h5, h6⟩ := h p hp
 exact pproduct u z w (by omega) (by omega) (by omega) (by omega)
theorem quotient_fn (ps : List Pr) (h : ∀ p ∈ ps, ∀ u, (u = p.a ∨ u = p.b) → ∀ z, (z = p.c ∨ z = p.d) → ¬ z = 0 ∧ -9223372036854775808 ≤ u.tdiv z ∧ u.tdiv z ≤ 9223372036854775807) : NumFn 94 (fun x y => x.tdiv y) ps := by
 intro p hp u hu z hz w
 obtain ⟨h1, h2, h3⟩ := h p hp u hu z hz
 exact pquotient u z _ w h2 h3 h1 rfl
end Go.Proofs.Ytgkhldbnljdeiaa
namespace Go.Proofs.Ytgkhldbnljdeiaa
open Go.RowKit RangesMath Go.MapKept
/-- The pairs that have a quotient, in three parts. -/
def divL (a b c d : Int) : List Pr :=
 optS (comS a b (-9223372036854775808) 9223372036854775807).2.2 (comS c d (-9223372036854775808) (-2)).2.2 ⟨(comS a b (-9223372036854775808) 9223372036854775807).1, (comS a b (-9223372036854775808) 9223372036854775807).2.1, (comS c d (-9223372036854775808) (-2)).1, (comS c d (-9223372036854775808) (-2)).2.1⟩ ++
 optS (comS a b (-9223372036854775807) 9223372036854775807).2.2 (comS c d (-1) (-1)).2.2 ⟨(comS a b (-9223372036854775807) 9223372036854775807).1, (comS a b (-9223372036854775807) 9223372036854775807).2.1, (comS c d (-1) (-1)).1, (comS c d (-1) (-1)).2.1⟩ ++
 optS (comS a b (-9223372036854775808) 9223372036854775807).2.2 (comS c d 1 9223372036854775807).2.2 ⟨(comS a b (-9223372036854775808) 9223372036854775807).1, (comS a b (-9223372036854775808) 9223372036854775807).2.1, (comS c d 1 9223372036854775807).1, (comS c d 1 9223372036854775807).2.1⟩
theorem com_any (a b c d : Int) : Com a b c d (comS a b c d).1 (comS a b c d).2.1 (comS a b c d).2.2 := fun w => Lib.hid (pcommon_any a b c d w)
theorem pdivisible (a b c d : Int) : DivOut a b c d (divL a b c d) := fun w => Lib.hid (pdivisible_walk a b c d _ _ _ _ _ _ _ _ _ _ _ _ _ _ _ _ _ _ w (com_any _ _ _ _) (com_any _ _ _ _) (com_any _ _ _ _) (com_any _ _ _ _) (com_any _ _ _ _) (com_any _ _ _ _))
theorem divL_len (a b c d : Int) : (divL a b c d).length ≤ 3 := by
 unfold divL optS
 simp only [List.length_append]
 split <;> split <;> split <;> simp
theorem divcalc_some {a b c d k x y : Int} {f : Nat} {ps : List Pr} (D : DivOut a b c d ps) (h : 0 < ps.length) (C : CalcOK k f ps x y) (w : World) : Calls Try.prog 95 #[.agg #[.int .i64 a, .int .i64 b], .agg #[.int .i64 c, .int .i64 d]] w (DivCalc k f x y true w) := by
 refine (D w).out.mono ?_
 rintro e w' ⟨v, rfl, hown, hB⟩
 obtain ⟨o, cap, rfl, hcap, hform⟩ := owns_form hown
 obtain ⟨g, rfl, _, hg, hcell⟩ := hform.resolve_left (by omega)
 exact ⟨_, rfl, hB, C g cap w' hg hcap hcell⟩
theorem divcalc_none {a b c d k : Int} {f : Nat} (D : DivOut a b c d []) (w : World) : Calls Try.prog 95 #[.agg #[.int .i64 a, .int .i64 b], .agg #[.int .i64 c, .int .i64 d]] w (DivCalc k f 0 0 false w) := by
 refine (D w).out.mono ?_
 rintro e w' ⟨v, rfl, hown, hB⟩
 obtain ⟨o, cap, rfl, _, _⟩ := owns_form hown
 exact ⟨_, rfl, hB, pcalc_nil k f o cap w'⟩
theorem psize_any {v : Int} (h1 : -9223372036854775808 ≤ v) (h2 : v ≤ 9223372036854775807) : SizeOf v (v.natAbs : Int) := fun w => Lib.hid (psize v w h1 h2)
theorem has_any (a b v : Int) : Has a b v (decide (a ≤ v) && decide (v ≤ b)) := fun w => Lib.hid (pcontains a b v w)
theorem psizes_any (c d : Int) (h1 : -9223372036854775808 ≤ c) (h2 : c ≤ 9223372036854775807) (h3 : -9223372036854775808 ≤ d) (h4 : d ≤ 9223372036854775807) :
   SizesOut c d (if c ≤ 0 ∧ 0 ≤ d then 1 else min (c.natAbs : Int) (d.natAbs : Int)) (max (c.natAbs : Int) (d.natAbs : Int)) := by
 intro w
 refine Lib.hid ?_
 have S1 := psize_any h1 h2
 have S2 := psize_any h3 h4
 have T := has_any c d 0
 by_cases ht : c ≤ 0 ∧ 0 ≤ d
 · rw [if_pos ht]
   rw [show (decide (c ≤ 0) && decide (0 ≤ d)) = true by simp; exact ht] at T
   rcases Int.lt_trichotomy (c.natAbs : Int) (d.natAbs : Int) with h | h | h
   · rw [show max (c.natAbs : Int) (d.natAbs : Int) = d.natAbs by omega]
     exact psizes_lt_true c d _ _ w S1 S2 T h
   · rw [← h] at S2
     rw [show max (c.natAbs : Int) (d.natAbs : Int) = c.natAbs by omega]
     exact psizes_eq_true c d _ 0 w S1 S2 T
   · rw [show max (c.natAbs : Int) (d.natAbs : Int) = c.natAbs by omega]
     exact psizes_gt_true c d _ _ w S1 S2 T h
 · rw [if_neg ht]
   rw [show (decide (c ≤ 0) && decide (0 ≤ d)) = false by simp; omega] at T
   rcases Int.lt_trichotomy (c.natAbs : Int) (d.natAbs : Int) with h | h | h
   · rw [show max (c.natAbs : Int) (d.natAbs : Int) = d.natAbs by omega, show min (c.natAbs : Int) (d.natAbs : Int) = c.natAbs by omega]
     exact psizes_lt_false c d _ _ w S1 S2 T h
   · rw [← h] at S2
     rw [show max (c.natAbs : Int) (d.natAbs : Int) = c.natAbs by omega, show min (c.natAbs : Int) (d.natAbs : Int) = c.natAbs by omega]
     exact psizes_eq_false c d _ 0 w S1 S2 T
   · rw [show max (c.natAbs : Int) (d.natAbs : Int) = c.natAbs by omega, show min (c.natAbs : Int) (d.natAbs : Int) = d.natAbs by omega]
     exact psizes_gt_false c d _ _ w S1 S2 T h
theorem prem_some (a b c d l g : Int) (L : List Pr) (hL : 0 < L.length) (D : DivOut a b c d L) (Z : SizesOut c d l g) (g1 : 1 ≤ g) (g2 : g ≤ 9223372036854775808) (h1 : -9223372036854775808 ≤ a) (h2 : a ≤ 9223372036854775807) (h3 : -9223372036854775808 ≤ b) (h4 : b ≤ 9223372036854775807) :
   EffFn 97 #[.agg #[.int .i64 a, .int .i64 b], .agg #[.int .i64 c, .int .i64 d]] (restS a b l g).1 (restS a b l g).2 true false false := by
 intro w
 refine Lib.hid ?_
 have S1 := psize_any h1 h2
 have S2 := psize_any h3 h4
 unfold restS absS
 by_cases hs : (a.natAbs : Int) < l ∧ (b.natAbs : Int) < l
 · rw [if_pos hs]
   exact prem_small a b c d l g _ _ L w hL D Z S1 S2 hs.1 hs.2
 · rw [if_neg hs]
   have Z' : SizesOut c d l (g - 1 + 1) := by rw [show g - 1 + 1 = g by omega]; exact Z
   refine prem_big a b c d l (g - 1) (a.natAbs : Int) (b.natAbs : Int) _ _ L w hL D Z' S1 S2 (by omega) (by omega) (by omega) (Lib.hid ?_) (Lib.hid ?_)
   · by_cases ha : a < 0
     · rw [if_pos ha]
       by_cases h : a < -(g - 1)
       · left; exact ⟨ha, h, by omega⟩
       · right; left; exact ⟨ha, by omega, by omega⟩
     · right; right; rw [if_neg ha]; exact ⟨by simpa using ha, rfl⟩
   · by_cases hb : 0 < b
     · rw [if_pos hb]
       by_cases h : b ≤ g - 1
       · left; exact ⟨hb, h, by omega⟩
       · right; left; exact ⟨hb, by omega, by omega⟩
     · right; right; rw [if_neg hb]; exact ⟨by simpa using hb, rfl⟩
theorem prem_empty (a b c d : Int) (D : DivOut a b c d []) : EffFn 97 #[.agg #[.int .i64 a, .int .i64 b], .agg #[.int .i64 c, .int .i64 d]] 0 0 false false false := fun w => Lib.hid (prem_none a b c d w D)
/-- What divided adds. -/
def undS (a b c d : Int) : Bool := (decide (a ≤ -9223372036854775808) && decide (-9223372036854775808 ≤ b)) && (decide (c ≤ -1) && decide (-1 ≤ d))
theorem pdivided (a b c d x y : Int) (s : Bool) : EffFn 93 #[.agg #[.int .i64 a, .int .i64 b], .agg #[.int .i64 c, .int .i64 d], .agg #[.int .i64 x, .int .i64 y, .bool s, .bool false, .bool false]] x y s (decide (c ≤ 0) && decide (0 ≤ d)) (undS a b c d) := by
 intro w
 refine Lib.hid ?_
 have C1 := has_any c d 0
 have C2 := has_any a b (-9223372036854775808)
 have C3 := has_any c d (-1)
 unfold undS
 cases h : (decide (a ≤ -9223372036854775808) && decide (-9223372036854775808 ≤ b)) with
 | false =>
   rw [h] at C2
   exact pdivided_f a b c d x y s _ false w C1 C2
 | true =>
   rw [h] at C2
   rw [Bool.true_and]
   exact pdivided_t a b c d x y s _ _ w C1 C2 C3
end Go.Proofs.Ytgkhldbnljdeiaa
namespace Go.Proofs.Ytgkhldbnljdeiaa
open Go.RowKit RangesMath Go.MapKept
theorem ex_add : BinOut 21 4 1 1 3 10 20 11 23 true false false 0 := by
 intro w
 refine Lib.hid ?_
 have C := calc_ok 1 99 (fun x y => x + y) [⟨1, 3, 10, 20⟩] 11 23 (by decide) (by decide) ent_sum (sum_fn _ (by simp)) (by decide) (by decide) (.inl rfl)
 refine binary_arith 4 1 1 3 10 20 11 23 true false false (.inl rfl) (by omega) (fun w => arith_eff 4 1 1 3 10 20 11 23 true false false 98 3 (fun n => rfl) ent_a4 ?_ w) (by decide) (by decide) w
 intro kb w hkb hk
 exact parith_4 1 1 3 10 20 _ _ kb w hkb hk (Lib.hid (calc1_of C))
theorem ex_sub : BinOut 21 5 2 5 6 10 10 251 252 true false false 0 := by
 intro w
 refine Lib.hid ?_
 have C := calc_ok 2 52 (fun x y => x - y) [⟨5, 6, 10, 10⟩] (-5) (-4) (by decide) (by decide) ent_difference (difference_fn _ (by simp)) (by decide) (by decide) (.inr (by omega))
 refine binary_arith 5 2 5 6 10 10 251 252 true false false (.inr rfl) (by omega) (fun w => arith_eff 5 2 5 6 10 10 251 252 true false false 100 4 (fun n => rfl) ent_a5 ?_ w) (by decide) (by decide) w
 intro kb w hkb hk
 exact parith_5 2 5 6 10 10 _ _ kb w hkb hk (Lib.hid (calc1_of C))
theorem ex_div : BinOut 21 2 1 (-7) 9 (-2) 3 (-9) 9 true true false 0 := by
 intro w
 refine Lib.hid ?_
 have D := pdivisible (-7) 9 (-2) 3
 rw [show divL (-7) 9 (-2) 3 = [⟨-7, 9, -2, -2⟩, ⟨-7, 9, -1, -1⟩, ⟨-7, 9, 1, 3⟩] by rfl] at D
 have C := calc_ok 1 94 (fun x y => x.tdiv y) [⟨-7, 9, -2, -2⟩, ⟨-7, 9, -1, -1⟩, ⟨-7, 9, 1, 3⟩] (-9) 9 (by decide) (by decide) ent_quotient (quotient_fn _ (by
   intro p hp u hu z hz
   simp only [List.mem_cons, List.not_mem_nil, or_false] at hp
   rcases hp with rfl | rfl | rfl <;> rcases hu with rfl | rfl <;> rcases hz with rfl | rfl <;> decide)) (by decide) (by decide) (.inl rfl)
 refine binary_arith 2 1 (-7) 9 (-2) 3 (-9) 9 true true false (.inl rfl) (by omega) (fun w => arith_eff 2 1 (-7) 9 (-2) 3 (-9) 9 true true false 92 1 (fun n => rfl) ent_a2 ?_ w) (by decide) (by decide) w
 intro kb w hkb hk
 exact parith_2 1 (-7) 9 (-2) 3 (-9) 9 true true false kb w hkb hk (fun w => Lib.hid (divcalc_some D (by decide) C w)) (pdivided (-7) 9 (-2) 3 (-9) 9 true)
theorem ex_rem : BinOut 21 3 1 (-5) 20 4 4 (-3) 3 true false false 0 := by
 intro w
 refine Lib.hid ?_
 have D := pdivisible (-5) 20 4 4
 have Z := psizes_any 4 4 (by decide) (by decide) (by decide) (by decide)
 have R := prem_some (-5) 20 4 4 4 4 _ (by decide) D Z (by decide) (by decide) (by decide) (by decide) (by decide) (by decide)
 refine binary_arith 3 1 (-5) 20 4 4 (-3) 3 true false false (.inl rfl) (by omega) (fun w => arith_eff3 1 (-5) 20 4 4 (-3) 3 true false false ?_ ent_a3 w) (by decide) (by decide) w
 intro w
 exact parith_3 (-5) 20 4 4 (-3) 3 true false false w R (pdivided (-5) 20 4 4 (-3) 3 true)
theorem shown_ok : ShownOK' := by
 intro w
 refine shown_of (fun w => ?_) (fun w => ?_) (fun w => ?_) (fun w => ?_) (fun w => ?_) w
 · exact (ex_add w).out
 · exact (ex_sub w).out
 · exact (ex_div w).out
 · exact (ex_rem w).out
 · have i : ∀ n : Int, -9223372036854775808 ≤ n → n ≤ 9223372036854775807 → In64 n := fun n h1 h2 => ⟨h1, h2⟩
   exact (passume_spec 13 1 0 10 5 5 true (i _ (by omega) (by omega)) (i _ (by omega) (by omega)) (i _ (by omega) (by omega)) (i _ (by omega) (by omega)) w).out
end Go.Proofs.Ytgkhldbnljdeiaa
namespace Go.Proofs.Ytgkhldbnljdeiaa
open Go.RowKit RangesMath
attribute [local go_sem] World.setCell_self
attribute [local go_sem ↓] Go.wp_at_zero Go.wp_at_succ
/-- A number as the words of its struct. -/
def NumTo (f : Nat) (args : Array Value) (p q : Int) : Prop := ∀ w, Hid (Calls Try.prog f args w fun e w' => e = .returned (.agg #[.int .i64 p, .int .u64 q]) ∧ Below w.heap.size w w')
/-- around of two numbers. -/
def Arnd (p q r s lp lq hp hq : Int) : Prop := ∀ (g cap : Nat) (w : World), g < w.heap.size → 2 ≤ cap → w.cell? ⟨g, 0, none⟩ = some (.int .i64 p) → w.cell? ⟨g, 1, none⟩ = some (.int .u64 q) → w.cell? ⟨g, 2, none⟩ = some (.int .i64 r) → w.cell? ⟨g, 3, none⟩ = some (.int .u64 s) →
 Calls Try.prog 42 #[.slice (some ⟨g, 0, none⟩) 2 cap] w fun e w' => e = .returned (.agg #[.int .i64 lp, .int .u64 lq, .int .i64 hp, .int .u64 hq]) ∧ Below w.heap.size w w'
def W64 : Int := 18446744073709551616
theorem arnd_any (u v : Int) : Arnd (u / 18446744073709551616) (u % 18446744073709551616) (v / 18446744073709551616) (v % 18446744073709551616) (min u v / 18446744073709551616) (min u v % 18446744073709551616) (max u v / 18446744073709551616) (max u v % 18446744073709551616) := by
 intro g cap w hg hcap c0 c1 c2 c3
 have H : NumsAt w g [u, v] := by
   intro i hi
   match i, hi with
   | 0, _ => exact ⟨c0, c1⟩
   | 1, _ => exact ⟨c2, c3⟩
 exact paround_any [u, v] g cap w hg (by simp) (by simp) hcap H
def IntoTo (k lp lq hp hq x y : Int) : Prop := ∀ w, Hid (Calls Try.prog 44 #[.agg #[.int .i64 lp, .int .u64 lq, .int .i64 hp, .int .u64 hq], .int .i64 k] w (IntoOut x y w))
theorem psmall_bad (a b : Int) (w : World) (Q : Are1 1 a b false) :
   Calls Try.prog 23 #[.agg #[.int .i64 a, .int .i64 b]] w fun e w' => e = .returned (.tuple #[.agg #[.int .i64 0, .int .i64 0], .int .i64 2]) ∧ Below w.heap.size w w' := by
 have Q := Lib.hid Q
 go_enter Try.func23, Try.ntmps23
 go_wp2_with fail
 have KI : Keeps (w.heap.size) [(w.heap.size, 0, .int .i64 a), (w.heap.size, 1, .int .i64 b)] [(w.heap.size + 1, 0), (w.heap.size + 1, 1)] w ((w.alloc (.cells #[.int .i64 a, .int .i64 b] 23)).alloc (.cells #[.int .i64 0, .int .i64 0] 23)) := by
   refine ⟨?_, ?_, ?_, ?_, by simp; try omega, ((Below.refl _ _).alloc (Nat.le_refl _) _).alloc (by simp) _⟩
   · simp only [fm, nm, false_imp_iff, implies_true, and_true]
     exact ⟨by go_simp, by go_simp⟩
   · simp only [fm, nm, false_imp_iff, implies_true, and_true]
     exact ⟨valAt_some (by go_simp), valAt_some (by go_simp)⟩
   · simp only [fm, nm, false_imp_iff, implies_true, and_true]
     exact ⟨by go_simp, by go_simp⟩
   · simp only [fm, nm, false_imp_iff, implies_true, and_true]
     exact ⟨by simp; try omega, by simp; try omega⟩
 have KI := Lib.hid KI
 refine (Q.out _ _ _ (by simp) (by omega) ⟨by go_simp, by go_simp⟩).mono ?_
 rintro e w1 ⟨rfl, hB⟩
 have K1 := Lib.hid (KI.out.later (((Below.refl _ _).alloc (Nat.le_refl _) _).trans (hB.mono (by simp))))
 clear hB KI
 have k0 : w1.cell? ⟨w.heap.size, 0, none⟩ = some (.int .i64 a) := (K1.out).fixed (w.heap.size, 0, .int .i64 a) (by simp)
 have k1 : w1.cell? ⟨w.heap.size, 1, none⟩ = some (.int .i64 b) := (K1.out).fixed (w.heap.size, 1, .int .i64 b) (by simp)
 have v0 : w1.cell? ⟨w.heap.size + 1, 0, none⟩ = some (valAt w1 ⟨w.heap.size + 1, 0, none⟩) := (K1.out).there (w.heap.size + 1, 0) (by simp)
 have f0 : w1.frozen? ⟨w.heap.size + 1, 0, none⟩ = false := (K1.out).froz (w.heap.size + 1, 0) (by simp)
 have v1 : w1.cell? ⟨w.heap.size + 1, 1, none⟩ = some (valAt w1 ⟨w.heap.size + 1, 1, none⟩) := (K1.out).there (w.heap.size + 1, 1) (by simp)
 have f1 : w1.frozen? ⟨w.heap.size + 1, 1, none⟩ = false := (K1.out).froz (w.heap.size + 1, 1) (by simp)
 have z0 : w.heap.size + 1 < w1.heap.size := (K1.out).lt (w.heap.size + 1, 0) (by simp)
 go_wp2
 have bl := K1.out.bl
 refine bodyPost_ret (v := .tuple #[.agg #[.int .i64 0, .int .i64 0], .int .i64 2]) (by simp [results, Try.results23, go_sem, v0, v1]) rfl ⟨rfl, (bl.setCell (by simp) _).setCell (by simp) _⟩
theorem psmall_ok (a b p q r s lp lq hp hq x y : Int) (w : World) (Q : Are1 1 a b true) (N1 : NumTo 43 #[.int .i64 a] p q) (N2 : NumTo 43 #[.int .i64 b] r s) (T : IntoTo 2 lp lq hp hq x y) (A : Arnd p q r s lp lq hp hq) :
   Calls Try.prog 23 #[.agg #[.int .i64 a, .int .i64 b]] w fun e w' => e = .returned (.tuple #[.agg #[.int .i64 x, .int .i64 y], .int .i64 0]) ∧ Below w.heap.size w w' := by
 have Q := Lib.hid Q
 have N1 := Lib.hid N1
 have N2 := Lib.hid N2
 have T := Lib.hid T
 have A := Lib.hid A
 go_enter Try.func23, Try.ntmps23
 go_wp2_with fail
 have KI : Keeps (w.heap.size) [(w.heap.size, 0, .int .i64 a), (w.heap.size, 1, .int .i64 b)] [(w.heap.size + 1, 0), (w.heap.size + 1, 1)] w ((w.alloc (.cells #[.int .i64 a, .int .i64 b] 23)).alloc (.cells #[.int .i64 0, .int .i64 0] 23)) := by
   refine ⟨?_, ?_, ?_, ?_, by simp; try omega, ((Below.refl _ _).alloc (Nat.le_refl _) _).alloc (by simp) _⟩
   · simp only [fm, nm, false_imp_iff, implies_true, and_true]
     exact ⟨by go_simp, by go_simp⟩
   · simp only [fm, nm, false_imp_iff, implies_true, and_true]
     exact ⟨valAt_some (by go_simp), valAt_some (by go_simp)⟩
   · simp only [fm, nm, false_imp_iff, implies_true, and_true]
     exact ⟨by go_simp, by go_simp⟩
   · simp only [fm, nm, false_imp_iff, implies_true, and_true]
     exact ⟨by simp; try omega, by simp; try omega⟩
 have KI := Lib.hid KI
 refine (Q.out _ _ _ (by simp) (by omega) ⟨by go_simp, by go_simp⟩).mono ?_
 rintro e w1 ⟨rfl, hB⟩
 have K1 := Lib.hid (KI.out.later (((Below.refl _ _).alloc (Nat.le_refl _) _).trans (hB.mono (by simp))))
 clear hB KI
 go_wp2_with fail
 have ID := K1.out.later (Below.refl _ _).drew
 clear K1
 refine wp_region_held_drew (S := fun w' => w'.cell? ⟨w.heap.size, 0, none⟩ = some (.int .i64 a) ∧ w'.cell? ⟨w.heap.size, 1, none⟩ = some (.int .i64 b) ∧ w'.cell? ⟨w.heap.size + 1, 0, none⟩ = some (valAt w' ⟨w.heap.size + 1, 0, none⟩) ∧ w'.cell? ⟨w.heap.size + 1, 1, none⟩ = some (valAt w' ⟨w.heap.size + 1, 1, none⟩) ∧ w'.frozen? ⟨w.heap.size + 1, 0, none⟩ = false ∧ w'.frozen? ⟨w.heap.size + 1, 1, none⟩ = false ∧ w.heap.size + 1 < w'.heap.size ∧ Keeps (w.heap.size) [(w.heap.size, 0, .int .i64 a), (w.heap.size, 1, .int .i64 b)] [(w.heap.size + 1, 0), (w.heap.size + 1, 1)] w w') (by kernel_rfl) ⟨(ID).fixed (w.heap.size, 0, .int .i64 a) (by simp), (ID).fixed (w.heap.size, 1, .int .i64 b) (by simp), (ID).there (w.heap.size + 1, 0) (by simp), (ID).there (w.heap.size + 1, 1) (by simp), (ID).froz (w.heap.size + 1, 0) (by simp), (ID).froz (w.heap.size + 1, 1) (by simp), (ID).lt (w.heap.size + 1, 0) (by simp), ID⟩ (fun hHeld => ?_)
 refine tk (i := 0) (v := ?_) rfl (by kernel_rfl) (by kernel_rfl) (by kernel_rfl) (fun _ _ _ h => h) (Or.inl ⟨by rfl, ?_⟩) (by assumption) ?_
 rotate_left
 focus (intro w' hSw; (try dsimp only at hSw); go_simp; try with_reducible rfl)
 try simp only [Act.put, p1, p2, p3, p4, p5, p6]
 refine tk (i := 1) (v := ?_) rfl (by kernel_rfl) (by kernel_rfl) (by kernel_rfl) (fun _ _ _ h => h) (Or.inl ⟨by rfl, ?_⟩) (by assumption) ?_
 rotate_left
 focus (intro w' hSw; (try dsimp only at hSw); go_simp; try with_reducible rfl)
 try simp only [Act.put, p1, p2, p3, p4, p5, p6]
 refine tk (i := 3) (v := ?_) rfl (by kernel_rfl) (by kernel_rfl) (by kernel_rfl) (fun _ _ _ h => h) (Or.inl ⟨by rfl, ?_⟩) (by assumption) ?_
 rotate_left
 focus (intro w' hSw; (try dsimp only at hSw); go_simp; try with_reducible rfl)
 try simp only [Act.put, p1, p2, p3, p4, p5, p6]
 refine tk (i := 4) (v := ?_) rfl (by kernel_rfl) (by kernel_rfl) (by kernel_rfl) (fun _ _ _ h => h) (Or.inl ⟨by rfl, ?_⟩) (by assumption) ?_
 rotate_left
 focus (intro w' hSw; (try dsimp only at hSw); go_simp; try with_reducible rfl)
 try simp only [Act.put, p1, p2, p3, p4, p5, p6]
 refine rd (rs := [2]) (by kernel_rfl) (by simp) ?_
 refine AllReadyH.cons rfl (fun K hK => ?_) AllReadyH.nil
 go_simp
 go_at_call 43
 refine ((N1.out _).out).mono ?_
 rintro eq1 wq1 ⟨rfl, hB1⟩
 have I1 := Lib.hid ((ID).later (hB1))
 clear hB1
 go_wp2_with fail
 refine hK.out _ _ ⟨(I1.out).fixed (w.heap.size, 0, .int .i64 a) (by simp), (I1.out).fixed (w.heap.size, 1, .int .i64 b) (by simp), (I1.out).there (w.heap.size + 1, 0) (by simp), (I1.out).there (w.heap.size + 1, 1) (by simp), (I1.out).froz (w.heap.size + 1, 0) (by simp), (I1.out).froz (w.heap.size + 1, 1) (by simp), (I1.out).lt (w.heap.size + 1, 0) (by simp), I1.out⟩ (fun hHeld => ?_)
 clear hK K
 try simp only [Act.put, p1, p2, p3, p4, p5, p6]
 refine rd (rs := [5]) (by kernel_rfl) (by simp) ?_
 refine AllReadyH.cons rfl (fun K hK => ?_) AllReadyH.nil
 go_simp
 go_at_call 43
 refine ((N2.out _).out).mono ?_
 rintro eq2 wq2 ⟨rfl, hB2⟩
 have I2 := Lib.hid ((I1.out).later (hB2))
 clear hB2
 go_wp2_with fail
 refine hK.out _ _ ⟨(I2.out).fixed (w.heap.size, 0, .int .i64 a) (by simp), (I2.out).fixed (w.heap.size, 1, .int .i64 b) (by simp), (I2.out).there (w.heap.size + 1, 0) (by simp), (I2.out).there (w.heap.size + 1, 1) (by simp), (I2.out).froz (w.heap.size + 1, 0) (by simp), (I2.out).froz (w.heap.size + 1, 1) (by simp), (I2.out).lt (w.heap.size + 1, 0) (by simp), I2.out⟩ (fun hHeld => ?_)
 clear hK K
 try simp only [Act.put, p1, p2, p3, p4, p5, p6]
 refine rd (rs := [6]) (by kernel_rfl) (by simp) ?_
 refine AllReadyH.cons rfl (fun K hK => ?_) AllReadyH.nil
 go_simp
 refine hK.out _ _ ⟨(((I2.out).later ((Below.refl _ _).alloc (Nat.le_refl _) _))).fixed (w.heap.size, 0, .int .i64 a) (by simp), (((I2.out).later ((Below.refl _ _).alloc (Nat.le_refl _) _))).fixed (w.heap.size, 1, .int .i64 b) (by simp), (((I2.out).later ((Below.refl _ _).alloc (Nat.le_refl _) _))).there (w.heap.size + 1, 0) (by simp), (((I2.out).later ((Below.refl _ _).alloc (Nat.le_refl _) _))).there (w.heap.size + 1, 1) (by simp), (((I2.out).later ((Below.refl _ _).alloc (Nat.le_refl _) _))).froz (w.heap.size + 1, 0) (by simp), (((I2.out).later ((Below.refl _ _).alloc (Nat.le_refl _) _))).froz (w.heap.size + 1, 1) (by simp), (((I2.out).later ((Below.refl _ _).alloc (Nat.le_refl _) _))).lt (w.heap.size + 1, 0) (by simp), ((I2.out).later ((Below.refl _ _).alloc (Nat.le_refl _) _))⟩ (fun hHeld => ?_)
 clear hK K
 try simp only [Act.put, p1, p2, p3, p4, p5, p6]
 refine rd (rs := [7]) (by kernel_rfl) (by simp) ?_
 refine AllReadyH.cons rfl (fun K hK => ?_) AllReadyH.nil
 go_simp
 go_at_call 42
 refine (A.out _ _ _ (by simp) (by omega) (by go_simp) (by go_simp) (by go_simp) (by go_simp)).mono ?_
 rintro eq4 wq4 ⟨rfl, hB4⟩
 have I4 := Lib.hid ((((I2.out).later ((Below.refl _ _).alloc (Nat.le_refl _) _))).later (hB4))
 clear hB4
 go_wp2_with fail
 refine hK.out _ _ ⟨(I4.out).fixed (w.heap.size, 0, .int .i64 a) (by simp), (I4.out).fixed (w.heap.size, 1, .int .i64 b) (by simp), (I4.out).there (w.heap.size + 1, 0) (by simp), (I4.out).there (w.heap.size + 1, 1) (by simp), (I4.out).froz (w.heap.size + 1, 0) (by simp), (I4.out).froz (w.heap.size + 1, 1) (by simp), (I4.out).lt (w.heap.size + 1, 0) (by simp), I4.out⟩ (fun hHeld => ?_)
 clear hK K
 try simp only [Act.put, p1, p2, p3, p4, p5, p6]
 refine rd (rs := [8]) (by kernel_rfl) (by simp) ?_
 refine AllReadyH.cons rfl (fun K hK => ?_) AllReadyH.nil
 go_simp
 go_at_call 44
 refine ((T.out _).out).mono ?_
 rintro eq5 wq5 ⟨rfl, hB5⟩
 have I5 := Lib.hid ((I4.out).later (hB5))
 clear hB5
 go_wp2_with fail
 refine hK.out _ _ ⟨(I5.out).fixed (w.heap.size, 0, .int .i64 a) (by simp), (I5.out).fixed (w.heap.size, 1, .int .i64 b) (by simp), (I5.out).there (w.heap.size + 1, 0) (by simp), (I5.out).there (w.heap.size + 1, 1) (by simp), (I5.out).froz (w.heap.size + 1, 0) (by simp), (I5.out).froz (w.heap.size + 1, 1) (by simp), (I5.out).lt (w.heap.size + 1, 0) (by simp), I5.out⟩ (fun hHeld => ?_)
 clear hK K
 try simp only [Act.put, p1, p2, p3, p4, p5, p6]
 refine rd (rs := [9]) (by kernel_rfl) (by simp) ?_
 refine AllReadyH.cons rfl (fun K hK => ?_) AllReadyH.nil
 go_simp
 have I6 := Lib.hid (Keeps.set (Keeps.set (I5.out) (w.heap.size + 1) 0 (.int .i64 x) (by simp) (by omega) (by simp; try omega)) (w.heap.size + 1) 1 (.int .i64 y) (by simp) (by omega) (by simp; try omega))
 refine hK.out _ _ ⟨(I6.out).fixed (w.heap.size, 0, .int .i64 a) (by simp), (I6.out).fixed (w.heap.size, 1, .int .i64 b) (by simp), (I6.out).there (w.heap.size + 1, 0) (by simp), (I6.out).there (w.heap.size + 1, 1) (by simp), (I6.out).froz (w.heap.size + 1, 0) (by simp), (I6.out).froz (w.heap.size + 1, 1) (by simp), (I6.out).lt (w.heap.size + 1, 0) (by simp), I6.out⟩ (fun hHeld => ?_)
 clear hK K
 try simp only [Act.put, p1, p2, p3, p4, p5, p6]
 refine tk (i := 10) (v := ?_) rfl (by kernel_rfl) (by kernel_rfl) (by kernel_rfl) (fun _ _ _ h => h) (Or.inl ⟨by rfl, ?_⟩) (by assumption) ?_
 rotate_left
 focus (intro w' hSw; (try dsimp only at hSw); go_simp; try with_reducible rfl)
 try simp only [Act.put, p1, p2, p3, p4, p5, p6]
 refine wpAnyH_done (by kernel_rfl) ?_ _
 have e0 : wq5.cell? ⟨w.heap.size + 1, 0, none⟩ = some (valAt wq5 ⟨w.heap.size + 1, 0, none⟩) := (I5.out).there (w.heap.size + 1, 0) (by simp)
 have e1 : wq5.cell? ⟨w.heap.size + 1, 1, none⟩ = some (valAt wq5 ⟨w.heap.size + 1, 1, none⟩) := (I5.out).there (w.heap.size + 1, 1) (by simp)
 have bl := (I6.out).bl
 go_wp2
 refine bodyPost_ret (v := .tuple #[.agg #[.int .i64 x, .int .i64 y], .int .i64 0]) (by simp [results, Try.results23, go_sem, e0, e1]) rfl ⟨rfl, bl⟩
theorem pnegative (k a b p q r s lp lq hp hq x y : Int) (kb : Nat) (w : World) (hkb : kb < w.heap.size) (hk : w.cell? ⟨kb, 0, none⟩ = some (.int .i64 k)) (N1 : NumTo 52 #[.int .i64 0, .int .i64 a] p q) (N2 : NumTo 52 #[.int .i64 0, .int .i64 b] r s) (T : IntoTo k lp lq hp hq x y) (A : Arnd p q r s lp lq hp hq) :
   Calls Try.prog 51 #[.agg #[.int .i64 a, .int .i64 b], .pointer (some ⟨kb, 0, none⟩)] w fun e w' => e = .returned (.agg #[.int .i64 x, .int .i64 y]) ∧ Below w.heap.size w w' := by
 have hk2 : ∀ o1 o2, ((w.alloc o1).alloc o2).cell? ⟨kb, 0, none⟩ = some (.int .i64 k) := by
   intro o1 o2
   rw [(((Below.refl w.heap.size w).alloc (Nat.le_refl _) o1).alloc (by simp) o2).cell (p := ⟨kb, 0, none⟩) hkb]
   exact hk
 clear hk
 have N1 := Lib.hid N1
 have N2 := Lib.hid N2
 have T := Lib.hid T
 have A := Lib.hid A
 go_enter Try.func51, Try.ntmps51
 go_wp2_with fail
 have KI : Keeps (w.heap.size) [(kb, 0, .int .i64 k), (w.heap.size, 0, .int .i64 a), (w.heap.size, 1, .int .i64 b)] [(w.heap.size + 1, 0), (w.heap.size + 1, 1)] w ((w.alloc (.cells #[.int .i64 a, .int .i64 b] 23)).alloc (.cells #[.int .i64 0, .int .i64 0] 23)) := by
   refine ⟨?_, ?_, ?_, ?_, by simp; try omega, ((Below.refl _ _).alloc (Nat.le_refl _) _).alloc (by simp) _⟩
   · simp only [fm, nm, false_imp_iff, implies_true, and_true]
     exact ⟨by go_simp, by go_simp, by go_simp⟩
   · simp only [fm, nm, false_imp_iff, implies_true, and_true]
     exact ⟨valAt_some (by go_simp), valAt_some (by go_simp)⟩
   · simp only [fm, nm, false_imp_iff, implies_true, and_true]
     exact ⟨by go_simp, by go_simp⟩
   · simp only [fm, nm, false_imp_iff, implies_true, and_true]
     exact ⟨by simp; try omega, by simp; try omega⟩
 have ID := KI.later (Below.refl _ _).drew
 clear KI hk2
 generalize ((w.alloc (.cells #[.int .i64 a, .int .i64 b] 23)).alloc (.cells #[.int .i64 0, .int .i64 0] 23)) = W at *
 refine wp_region_held_drew (S := fun w' => w'.cell? ⟨kb, 0, none⟩ = some (.int .i64 k) ∧ w'.cell? ⟨w.heap.size, 0, none⟩ = some (.int .i64 a) ∧ w'.cell? ⟨w.heap.size, 1, none⟩ = some (.int .i64 b) ∧ w'.cell? ⟨w.heap.size + 1, 0, none⟩ = some (valAt w' ⟨w.heap.size + 1, 0, none⟩) ∧ w'.cell? ⟨w.heap.size + 1, 1, none⟩ = some (valAt w' ⟨w.heap.size + 1, 1, none⟩) ∧ w'.frozen? ⟨w.heap.size + 1, 0, none⟩ = false ∧ w'.frozen? ⟨w.heap.size + 1, 1, none⟩ = false ∧ w.heap.size + 1 < w'.heap.size ∧ Keeps (w.heap.size) [(kb, 0, .int .i64 k), (w.heap.size, 0, .int .i64 a), (w.heap.size, 1, .int .i64 b)] [(w.heap.size + 1, 0), (w.heap.size + 1, 1)] w w') (by kernel_rfl) ⟨(ID).fixed (kb, 0, .int .i64 k) (by simp), (ID).fixed (w.heap.size, 0, .int .i64 a) (by simp), (ID).fixed (w.heap.size, 1, .int .i64 b) (by simp), (ID).there (w.heap.size + 1, 0) (by simp), (ID).there (w.heap.size + 1, 1) (by simp), (ID).froz (w.heap.size + 1, 0) (by simp), (ID).froz (w.heap.size + 1, 1) (by simp), (ID).lt (w.heap.size + 1, 0) (by simp), ID⟩ (fun hHeld => ?_)
 refine tk (i := 0) (v := ?_) rfl (by kernel_rfl) (by kernel_rfl) (by kernel_rfl) (fun _ _ _ h => h) (Or.inl ⟨by rfl, ?_⟩) (by assumption) ?_
 rotate_left
 focus (intro w' hSw; (try dsimp only at hSw); go_simp; try with_reducible rfl)
 try simp only [Act.put, p1, p2, p3, p4, p5, p6]
 refine tk (i := 1) (v := ?_) rfl (by kernel_rfl) (by kernel_rfl) (by kernel_rfl) (fun _ _ _ h => h) (Or.inl ⟨by rfl, ?_⟩) (by assumption) ?_
 rotate_left
 focus (intro w' hSw; (try dsimp only at hSw); go_simp; try with_reducible rfl)
 try simp only [Act.put, p1, p2, p3, p4, p5, p6]
 refine tk (i := 3) (v := ?_) rfl (by kernel_rfl) (by kernel_rfl) (by kernel_rfl) (fun _ _ _ h => h) (Or.inl ⟨by rfl, ?_⟩) (by assumption) ?_
 rotate_left
 focus (intro w' hSw; (try dsimp only at hSw); go_simp; try with_reducible rfl)
 try simp only [Act.put, p1, p2, p3, p4, p5, p6]
 refine tk (i := 4) (v := ?_) rfl (by kernel_rfl) (by kernel_rfl) (by kernel_rfl) (fun _ _ _ h => h) (Or.inl ⟨by rfl, ?_⟩) (by assumption) ?_
 rotate_left
 focus (intro w' hSw; (try dsimp only at hSw); go_simp; try with_reducible rfl)
 try simp only [Act.put, p1, p2, p3, p4, p5, p6]
 refine tk (i := 8) (v := ?_) rfl (by kernel_rfl) (by kernel_rfl) (by kernel_rfl) (fun _ _ _ h => h) (Or.inl ⟨by rfl, ?_⟩) (by assumption) ?_
 rotate_left
 focus (intro w' hSw; (try dsimp only at hSw); go_simp; try with_reducible rfl)
 try simp only [Act.put, p1, p2, p3, p4, p5, p6]
 refine rd (rs := [2]) (by kernel_rfl) (by simp) ?_
 refine AllReadyH.cons rfl (fun K hK => ?_) AllReadyH.nil
 go_simp
 go_at_call 52
 refine ((N1.out _).out).mono ?_
 rintro eq1 wq1 ⟨rfl, hB1⟩
 have I1 := Lib.hid ((ID).later (hB1))
 clear hB1
 go_wp2_with fail
 refine hK.out _ _ ⟨(I1.out).fixed (kb, 0, .int .i64 k) (by simp), (I1.out).fixed (w.heap.size, 0, .int .i64 a) (by simp), (I1.out).fixed (w.heap.size, 1, .int .i64 b) (by simp), (I1.out).there (w.heap.size + 1, 0) (by simp), (I1.out).there (w.heap.size + 1, 1) (by simp), (I1.out).froz (w.heap.size + 1, 0) (by simp), (I1.out).froz (w.heap.size + 1, 1) (by simp), (I1.out).lt (w.heap.size + 1, 0) (by simp), I1.out⟩ (fun hHeld => ?_)
 clear hK K
 try simp only [Act.put, p1, p2, p3, p4, p5, p6]
 refine rd (rs := [5]) (by kernel_rfl) (by simp) ?_
 refine AllReadyH.cons rfl (fun K hK => ?_) AllReadyH.nil
 go_simp
 go_at_call 52
 refine ((N2.out _).out).mono ?_
 rintro eq2 wq2 ⟨rfl, hB2⟩
 have I2 := Lib.hid ((I1.out).later (hB2))
 clear hB2
 go_wp2_with fail
 refine hK.out _ _ ⟨(I2.out).fixed (kb, 0, .int .i64 k) (by simp), (I2.out).fixed (w.heap.size, 0, .int .i64 a) (by simp), (I2.out).fixed (w.heap.size, 1, .int .i64 b) (by simp), (I2.out).there (w.heap.size + 1, 0) (by simp), (I2.out).there (w.heap.size + 1, 1) (by simp), (I2.out).froz (w.heap.size + 1, 0) (by simp), (I2.out).froz (w.heap.size + 1, 1) (by simp), (I2.out).lt (w.heap.size + 1, 0) (by simp), I2.out⟩ (fun hHeld => ?_)
 clear hK K
 try simp only [Act.put, p1, p2, p3, p4, p5, p6]
 refine rd (rs := [6]) (by kernel_rfl) (by simp) ?_
 refine AllReadyH.cons rfl (fun K hK => ?_) AllReadyH.nil
 go_simp
 refine hK.out _ _ ⟨(((I2.out).later ((Below.refl _ _).alloc (Nat.le_refl _) _))).fixed (kb, 0, .int .i64 k) (by simp), (((I2.out).later ((Below.refl _ _).alloc (Nat.le_refl _) _))).fixed (w.heap.size, 0, .int .i64 a) (by simp), (((I2.out).later ((Below.refl _ _).alloc (Nat.le_refl _) _))).fixed (w.heap.size, 1, .int .i64 b) (by simp), (((I2.out).later ((Below.refl _ _).alloc (Nat.le_refl _) _))).there (w.heap.size + 1, 0) (by simp), (((I2.out).later ((Below.refl _ _).alloc (Nat.le_refl _) _))).there (w.heap.size + 1, 1) (by simp), (((I2.out).later ((Below.refl _ _).alloc (Nat.le_refl _) _))).froz (w.heap.size + 1, 0) (by simp), (((I2.out).later ((Below.refl _ _).alloc (Nat.le_refl _) _))).froz (w.heap.size + 1, 1) (by simp), (((I2.out).later ((Below.refl _ _).alloc (Nat.le_refl _) _))).lt (w.heap.size + 1, 0) (by simp), ((I2.out).later ((Below.refl _ _).alloc (Nat.le_refl _) _))⟩ (fun hHeld => ?_)
 clear hK K
 try simp only [Act.put, p1, p2, p3, p4, p5, p6]
 refine rd (rs := [7]) (by kernel_rfl) (by simp) ?_
 refine AllReadyH.cons rfl (fun K hK => ?_) AllReadyH.nil
 go_simp
 go_at_call 42
 refine (A.out _ _ _ (by simp) (by omega) (by go_simp) (by go_simp) (by go_simp) (by go_simp)).mono ?_
 rintro eq4 wq4 ⟨rfl, hB4⟩
 have I4 := Lib.hid ((((I2.out).later ((Below.refl _ _).alloc (Nat.le_refl _) _))).later (hB4))
 clear hB4
 go_wp2_with fail
 refine hK.out _ _ ⟨(I4.out).fixed (kb, 0, .int .i64 k) (by simp), (I4.out).fixed (w.heap.size, 0, .int .i64 a) (by simp), (I4.out).fixed (w.heap.size, 1, .int .i64 b) (by simp), (I4.out).there (w.heap.size + 1, 0) (by simp), (I4.out).there (w.heap.size + 1, 1) (by simp), (I4.out).froz (w.heap.size + 1, 0) (by simp), (I4.out).froz (w.heap.size + 1, 1) (by simp), (I4.out).lt (w.heap.size + 1, 0) (by simp), I4.out⟩ (fun hHeld => ?_)
 clear hK K
 try simp only [Act.put, p1, p2, p3, p4, p5, p6]
 refine rd (rs := [9]) (by kernel_rfl) (by simp) ?_
 refine AllReadyH.cons rfl (fun K hK => ?_) AllReadyH.nil
 go_simp
 go_at_call 44
 refine ((T.out _).out).mono ?_
 rintro eq5 wq5 ⟨rfl, hB5⟩
 have I5 := Lib.hid ((I4.out).later (hB5))
 clear hB5
 go_wp2_with fail
 refine hK.out _ _ ⟨(I5.out).fixed (kb, 0, .int .i64 k) (by simp), (I5.out).fixed (w.heap.size, 0, .int .i64 a) (by simp), (I5.out).fixed (w.heap.size, 1, .int .i64 b) (by simp), (I5.out).there (w.heap.size + 1, 0) (by simp), (I5.out).there (w.heap.size + 1, 1) (by simp), (I5.out).froz (w.heap.size + 1, 0) (by simp), (I5.out).froz (w.heap.size + 1, 1) (by simp), (I5.out).lt (w.heap.size + 1, 0) (by simp), I5.out⟩ (fun hHeld => ?_)
 clear hK K
 try simp only [Act.put, p1, p2, p3, p4, p5, p6]
 refine rd (rs := [10]) (by kernel_rfl) (by simp) ?_
 refine AllReadyH.cons rfl (fun K hK => ?_) AllReadyH.nil
 go_simp
 have I6 := Lib.hid (Keeps.set (Keeps.set (I5.out) (w.heap.size + 1) 0 (.int .i64 x) (by simp) (by omega) (by simp; try omega)) (w.heap.size + 1) 1 (.int .i64 y) (by simp) (by omega) (by simp; try omega))
 refine hK.out _ _ ⟨(I6.out).fixed (kb, 0, .int .i64 k) (by simp), (I6.out).fixed (w.heap.size, 0, .int .i64 a) (by simp), (I6.out).fixed (w.heap.size, 1, .int .i64 b) (by simp), (I6.out).there (w.heap.size + 1, 0) (by simp), (I6.out).there (w.heap.size + 1, 1) (by simp), (I6.out).froz (w.heap.size + 1, 0) (by simp), (I6.out).froz (w.heap.size + 1, 1) (by simp), (I6.out).lt (w.heap.size + 1, 0) (by simp), I6.out⟩ (fun hHeld => ?_)
 clear hK K
 try simp only [Act.put, p1, p2, p3, p4, p5, p6]
 refine wpAnyH_done (by kernel_rfl) ?_ _
 have e0 : wq5.cell? ⟨w.heap.size + 1, 0, none⟩ = some (valAt wq5 ⟨w.heap.size + 1, 0, none⟩) := (I5.out).there (w.heap.size + 1, 0) (by simp)
 have e1 : wq5.cell? ⟨w.heap.size + 1, 1, none⟩ = some (valAt wq5 ⟨w.heap.size + 1, 1, none⟩) := (I5.out).there (w.heap.size + 1, 1) (by simp)
 have bl := (I6.out).bl
 go_wp2
 refine bodyPost_ret (v := .agg #[.int .i64 x, .int .i64 y]) (by simp [results, Try.results51, go_sem, e0, e1]) rfl ⟨rfl, bl⟩
theorem pturned (a b l h : Int) (ab : Nat) (w : World) (hab : ab < w.heap.size) (h0 : w.cell? ⟨ab, 0, none⟩ = some (.int .i64 l)) (h1 : w.cell? ⟨ab, 1, none⟩ = some (.int .i64 h)) (b0 : -9223372036854775808 ≤ l + h) (b1 : l + h ≤ 9223372036854775807) (b2 : -9223372036854775808 ≤ l + h - b) (b3 : l + h - b ≤ 9223372036854775807) (b4 : -9223372036854775808 ≤ l + h - a) (b5 : l + h - a ≤ 9223372036854775807) :
   Calls Try.prog 50 #[.agg #[.int .i64 a, .int .i64 b], .pointer (some ⟨ab, 0, none⟩)] w fun e w' => e = .returned (.agg #[.int .i64 (l + h - b), .int .i64 (l + h - a)]) ∧ Below w.heap.size w w' := by
 have k0 : ∀ o1 o2, ((w.alloc o1).alloc o2).cell? ⟨ab, 0, none⟩ = some (.int .i64 l) := by
   intro o1 o2
   rw [(((Below.refl w.heap.size w).alloc (Nat.le_refl _) o1).alloc (by simp) o2).cell (p := ⟨ab, 0, none⟩) hab]
   exact h0
 have k1 : ∀ o1 o2, ((w.alloc o1).alloc o2).cell? ⟨ab, 1, none⟩ = some (.int .i64 h) := by
   intro o1 o2
   rw [(((Below.refl w.heap.size w).alloc (Nat.le_refl _) o1).alloc (by simp) o2).cell (p := ⟨ab, 1, none⟩) hab]
   exact h1
 clear h0 h1
 go_enter Try.func50, Try.ntmps50
 go_wp2
 refine bodyPost_ret (v := .agg #[.int .i64 (l + h - b), .int .i64 (l + h - a)]) (by simp [results, Try.results50, go_sem]) rfl ⟨rfl, ?_⟩
 exact ((Below.refl _ _).alloc (Nat.le_refl _) _).alloc (by simp) _
end Go.Proofs.Ytgkhldbnljdeiaa
namespace Go.Proofs.Ytgkhldbnljdeiaa
open Go.RowKit RangesMath Go.MapKept
attribute [local go_sem] World.setCell_self
/-- unaries returns a map with these entries; its closures look at the kind and at the range of all its values. -/
def UnaMap (k lo hi : Int) (es : Nat → Nat → Array MapEntry) (c : Nat) (w : World) (e : Ending) (w' : World) : Prop := ∃ b ab, e = .returned (.map (some b)) ∧ w'.heap[b]? = some (.map (es w.heap.size ab) c) ∧ w'.cell? ⟨w.heap.size, 0, none⟩ = some (.int .i64 k) ∧ w.heap.size < w'.heap.size ∧ w'.cell? ⟨ab, 0, none⟩ = some (.int .i64 lo) ∧ w'.cell? ⟨ab, 1, none⟩ = some (.int .i64 hi) ∧ ab < w'.heap.size ∧ Below w.heap.size w w'
def unEs (kb ab : Nat) : Array MapEntry := #[⟨.int .i64 1, .func (.func 51) #[] #[.pointer (some ⟨kb, 0, none⟩)], 0⟩, ⟨.int .i64 3, .func (.func 50) #[] #[.pointer (some ⟨ab, 0, none⟩)], 1⟩]
def unEs3 (_kb ab : Nat) : Array MapEntry := #[⟨.int .i64 2, .func (.func 50) #[] #[.pointer (some ⟨ab, 0, none⟩)], 0⟩]
theorem punaries_1 (lo hi ee : Int) (w : World) (F : ∀ w, Hid (Calls Try.prog 11 #[.int .i64 1] w fun e w' => e = .returned (.tuple #[.agg #[.int .i64 lo, .int .i64 hi], .int .i64 ee]) ∧ Below w.heap.size w w')) :
   Calls Try.prog 33 #[.int .i64 1] w (UnaMap 1 lo hi unEs 2 w) := by
 have hmm := @run_makeMap Try.prog
 go_enter Try.func33, Try.ntmps33
 go_wp2_with fail
 refine (F _).out.mono ?_
 rintro e w1 ⟨rfl, hb⟩
 have z : w.heap.size < w1.heap.size := by have := hb.size; simp at this; omega
 have k0 : w1.cell? ⟨w.heap.size, 0, none⟩ = some (.int .i64 1) := cell_later hb (by go_simp)
 have k0' : ∀ o1, (w1.alloc o1).cell? ⟨w.heap.size, 0, none⟩ = some (.int .i64 1) := fun o1 => by rw [World.cell?_alloc_lt _ _ _ (World.block_lt_of_cell? _ _ k0)]; exact k0
 have bl : Below w.heap.size w w1 := ((Below.refl _ _).alloc (Nat.le_refl _) _).trans (hb.mono (by simp))
 clear hb
 have p0 : ∀ (v0 : Value), (Instr.mapUpdate 64 (.map (some (w1.heap.size + 1))) (.int .i64 1) v0).run Try.prog ((w1.alloc (.cells #[.int .i64 lo, .int .i64 hi] 23)).alloc (.map #[] 0)) = .ok () ((w1.alloc (.cells #[.int .i64 lo, .int .i64 hi] 23)).alloc (.map #[⟨.int .i64 1, v0, 0⟩] 1)) := fun v0 => run_put Try.underlying64 Try.underlying3 (by simp) rfl
 have p1 : ∀ (v0 v1 : Value), (Instr.mapUpdate 64 (.map (some (w1.heap.size + 1))) (.int .i64 3) v1).run Try.prog ((w1.alloc (.cells #[.int .i64 lo, .int .i64 hi] 23)).alloc (.map #[⟨.int .i64 1, v0, 0⟩] 1)) = .ok () ((w1.alloc (.cells #[.int .i64 lo, .int .i64 hi] 23)).alloc (.map #[⟨.int .i64 1, v0, 0⟩, ⟨.int .i64 3, v1, 1⟩] 2)) := fun v0 v1 => run_put Try.underlying64 Try.underlying3 (by simp) rfl
 go_wp2
 go_ret
 refine ⟨w1.heap.size + 1, w1.heap.size, rfl, ?_, ?_, by simp; omega, by go_simp, by go_simp, by simp; omega, (bl.alloc (by omega) _).alloc (by simp; omega) _⟩
 · have := (heap_alloc (w1.alloc (.cells #[.int .i64 lo, .int .i64 hi] 23)) (.map (unEs w.heap.size w1.heap.size) 2)).1
   simpa [unEs] using this
 · go_simp
theorem punaries_2 (lo hi ee : Int) (w : World) (F : ∀ w, Hid (Calls Try.prog 11 #[.int .i64 2] w fun e w' => e = .returned (.tuple #[.agg #[.int .i64 lo, .int .i64 hi], .int .i64 ee]) ∧ Below w.heap.size w w')) :
   Calls Try.prog 33 #[.int .i64 2] w (UnaMap 2 lo hi unEs 2 w) := by
 have hmm := @run_makeMap Try.prog
 go_enter Try.func33, Try.ntmps33
 go_wp2_with fail
 refine (F _).out.mono ?_
 rintro e w1 ⟨rfl, hb⟩
 have z : w.heap.size < w1.heap.size := by have := hb.size; simp at this; omega
 have k0 : w1.cell? ⟨w.heap.size, 0, none⟩ = some (.int .i64 2) := cell_later hb (by go_simp)
 have k0' : ∀ o1, (w1.alloc o1).cell? ⟨w.heap.size, 0, none⟩ = some (.int .i64 2) := fun o1 => by rw [World.cell?_alloc_lt _ _ _ (World.block_lt_of_cell? _ _ k0)]; exact k0
 have bl : Below w.heap.size w w1 := ((Below.refl _ _).alloc (Nat.le_refl _) _).trans (hb.mono (by simp))
 clear hb
 have p0 : ∀ (v0 : Value), (Instr.mapUpdate 64 (.map (some (w1.heap.size + 1))) (.int .i64 1) v0).run Try.prog ((w1.alloc (.cells #[.int .i64 lo, .int .i64 hi] 23)).alloc (.map #[] 0)) = .ok () ((w1.alloc (.cells #[.int .i64 lo, .int .i64 hi] 23)).alloc (.map #[⟨.int .i64 1, v0, 0⟩] 1)) := fun v0 => run_put Try.underlying64 Try.underlying3 (by simp) rfl
 have p1 : ∀ (v0 v1 : Value), (Instr.mapUpdate 64 (.map (some (w1.heap.size + 1))) (.int .i64 3) v1).run Try.prog ((w1.alloc (.cells #[.int .i64 lo, .int .i64 hi] 23)).alloc (.map #[⟨.int .i64 1, v0, 0⟩] 1)) = .ok () ((w1.alloc (.cells #[.int .i64 lo, .int .i64 hi] 23)).alloc (.map #[⟨.int .i64 1, v0, 0⟩, ⟨.int .i64 3, v1, 1⟩] 2)) := fun v0 v1 => run_put Try.underlying64 Try.underlying3 (by simp) rfl
 go_wp2
 go_ret
 refine ⟨w1.heap.size + 1, w1.heap.size, rfl, ?_, ?_, by simp; omega, by go_simp, by go_simp, by simp; omega, (bl.alloc (by omega) _).alloc (by simp; omega) _⟩
 · have := (heap_alloc (w1.alloc (.cells #[.int .i64 lo, .int .i64 hi] 23)) (.map (unEs w.heap.size w1.heap.size) 2)).1
   simpa [unEs] using this
 · go_simp
theorem punaries_3 (lo hi ee : Int) (w : World) (F : ∀ w, Hid (Calls Try.prog 11 #[.int .i64 3] w fun e w' => e = .returned (.tuple #[.agg #[.int .i64 lo, .int .i64 hi], .int .i64 ee]) ∧ Below w.heap.size w w')) :
   Calls Try.prog 33 #[.int .i64 3] w (UnaMap 3 lo hi unEs3 1 w) := by
 have hmm := @run_makeMap Try.prog
 go_enter Try.func33, Try.ntmps33
 go_wp2_with fail
 refine (F _).out.mono ?_
 rintro e w1 ⟨rfl, hb⟩
 have z : w.heap.size < w1.heap.size := by have := hb.size; simp at this; omega
 have k0 : w1.cell? ⟨w.heap.size, 0, none⟩ = some (.int .i64 3) := cell_later hb (by go_simp)
 have k0' : ∀ o1, (w1.alloc o1).cell? ⟨w.heap.size, 0, none⟩ = some (.int .i64 3) := fun o1 => by rw [World.cell?_alloc_lt _ _ _ (World.block_lt_of_cell? _ _ k0)]; exact k0
 have bl : Below w.heap.size w w1 := ((Below.refl _ _).alloc (Nat.le_refl _) _).trans (hb.mono (by simp))
 clear hb
 have p0 : ∀ (v0 : Value), (Instr.mapUpdate 64 (.map (some (w1.heap.size + 1))) (.int .i64 2) v0).run Try.prog ((w1.alloc (.cells #[.int .i64 lo, .int .i64 hi] 23)).alloc (.map #[] 0)) = .ok () ((w1.alloc (.cells #[.int .i64 lo, .int .i64 hi] 23)).alloc (.map #[⟨.int .i64 2, v0, 0⟩] 1)) := fun v0 => run_put Try.underlying64 Try.underlying3 (by simp) rfl
 go_wp2
 go_ret
 refine ⟨w1.heap.size + 1, w1.heap.size, rfl, ?_, ?_, by simp; omega, by go_simp, by go_simp, by simp; omega, (bl.alloc (by omega) _).alloc (by simp; omega) _⟩
 · have := (heap_alloc (w1.alloc (.cells #[.int .i64 lo, .int .i64 hi] 23)) (.map (unEs3 w.heap.size w1.heap.size) 1)).1
   simpa [unEs3] using this
 · go_simp
theorem punaries_no (k lo hi ee : Int) (w : World) (h1 : (k == 1) = false) (h2 : (k == 2) = false) (h3 : (k == 3) = false) (F : ∀ w, Hid (Calls Try.prog 11 #[.int .i64 k] w fun e w' => e = .returned (.tuple #[.agg #[.int .i64 lo, .int .i64 hi], .int .i64 ee]) ∧ Below w.heap.size w w')) :
   Calls Try.prog 33 #[.int .i64 k] w fun e w' => e = .returned (.map none) ∧ Below w.heap.size w w' := by
 go_enter Try.func33, Try.ntmps33
 go_wp2_with fail
 refine (F _).out.mono ?_
 rintro e w1 ⟨rfl, hb⟩
 have z : w.heap.size < w1.heap.size := by have := hb.size; simp at this; omega
 have k0 : w1.cell? ⟨w.heap.size, 0, none⟩ = some (.int .i64 k) := cell_later hb (by go_simp)
 have k0' : ∀ o1, (w1.alloc o1).cell? ⟨w.heap.size, 0, none⟩ = some (.int .i64 k) := fun o1 => by rw [World.cell?_alloc_lt _ _ _ (World.block_lt_of_cell? _ _ k0)]; exact k0
 have bl : Below w.heap.size w w1 := ((Below.refl _ _).alloc (Nat.le_refl _) _).trans (hb.mono (by simp))
 clear hb
 go_wp2
 go_ret
 exact ⟨rfl, bl.alloc (by omega) _⟩
def UnFindNo (op : Int) (w : World) (e : Ending) (w' : World) : Prop := ∃ m, e = .returned m ∧ Below w.heap.size w w' ∧ (Instr.lookup 64 m (.int .i64 op) true).run Try.prog w' = .ok (.tuple #[.nilFunc, .bool false]) w'
def Turns (g : Nat) (cap : Array Value) (a b x y : Int) (w : World) : Prop := ∀ w2, Below w.heap.size w w2 → Calls Try.prog g (#[.agg #[.int .i64 a, .int .i64 b]] ++ cap) w2 fun e w' => e = .returned (.agg #[.int .i64 x, .int .i64 y]) ∧ Below w2.heap.size w2 w'
def UnFind (op a b x y : Int) (w : World) (e : Ending) (w' : World) : Prop := ∃ m g cap, e = .returned m ∧ Below w.heap.size w w' ∧ (Instr.lookup 64 m (.int .i64 op) true).run Try.prog w' = .ok (.tuple #[.func (.func g) #[] cap, .bool true]) w' ∧ Enters g ∧ Turns g cap a b x y w'
def UnSome (op : Int) (w : World) (e : Ending) (w' : World) : Prop := ∃ m g cap, e = .returned m ∧ Below w.heap.size w w' ∧ (Instr.lookup 64 m (.int .i64 op) true).run Try.prog w' = .ok (.tuple #[.func (.func g) #[] cap, .bool true]) w'
theorem Turns.later {g : Nat} {cap : Array Value} {a b x y : Int} {w w' : World} (h : Turns g cap a b x y w) (hb : Below w.heap.size w w') : Turns g cap a b x y w' := fun w2 h2 => h w2 (hb.trans (h2.mono hb.size))
theorem punary_no (op k a b : Int) (w : World) (U : ∀ w, Hid (Calls Try.prog 33 #[.int .i64 k] w (UnFindNo op w))) :
   Calls Try.prog 19 #[.int .i64 op, .int .i64 k, .agg #[.int .i64 a, .int .i64 b]] w fun e w' => e = .returned (.tuple #[.agg #[.int .i64 0, .int .i64 0], .int .i64 2]) ∧ Below w.heap.size w w' := by
 go_enter Try.func19, Try.ntmps19
 go_wp2_with fail
 have KI : Keeps (w.heap.size) [(w.heap.size, 0, .int .i64 a), (w.heap.size, 1, .int .i64 b)] [(w.heap.size + 1, 0), (w.heap.size + 1, 1)] w ((w.alloc (.cells #[.int .i64 a, .int .i64 b] 23)).alloc (.cells #[.int .i64 0, .int .i64 0] 23)) := by
   refine ⟨?_, ?_, ?_, ?_, by simp; try omega, ((Below.refl _ _).alloc (Nat.le_refl _) _).alloc (by simp) _⟩
   · simp only [fm, nm, false_imp_iff, implies_true, and_true]
     exact ⟨by go_simp, by go_simp⟩
   · simp only [fm, nm, false_imp_iff, implies_true, and_true]
     exact ⟨valAt_some (by go_simp), valAt_some (by go_simp)⟩
   · simp only [fm, nm, false_imp_iff, implies_true, and_true]
     exact ⟨by go_simp, by go_simp⟩
   · simp only [fm, nm, false_imp_iff, implies_true, and_true]
     exact ⟨by simp; try omega, by simp; try omega⟩
 have KI := Lib.hid KI
 generalize ((w.alloc (.cells #[.int .i64 a, .int .i64 b] 23)).alloc (.cells #[.int .i64 0, .int .i64 0] 23)) = W at *
 refine (U _).out.mono ?_
 rintro e w1 ⟨m, rfl, hb, L⟩
 have K1 := Lib.hid (KI.out.later hb)
 clear hb KI
 have k0 : w1.cell? ⟨w.heap.size, 0, none⟩ = some (.int .i64 a) := (K1.out).fixed (w.heap.size, 0, .int .i64 a) (by simp)
 have k1 : w1.cell? ⟨w.heap.size, 1, none⟩ = some (.int .i64 b) := (K1.out).fixed (w.heap.size, 1, .int .i64 b) (by simp)
 have v0 : w1.cell? ⟨w.heap.size + 1, 0, none⟩ = some (valAt w1 ⟨w.heap.size + 1, 0, none⟩) := (K1.out).there (w.heap.size + 1, 0) (by simp)
 have f0 : w1.frozen? ⟨w.heap.size + 1, 0, none⟩ = false := (K1.out).froz (w.heap.size + 1, 0) (by simp)
 have v1 : w1.cell? ⟨w.heap.size + 1, 1, none⟩ = some (valAt w1 ⟨w.heap.size + 1, 1, none⟩) := (K1.out).there (w.heap.size + 1, 1) (by simp)
 have f1 : w1.frozen? ⟨w.heap.size + 1, 1, none⟩ = false := (K1.out).froz (w.heap.size + 1, 1) (by simp)
 have z0 : w.heap.size + 1 < w1.heap.size := (K1.out).lt (w.heap.size + 1, 0) (by simp)
 go_wp2
 have bl := K1.out.bl
 refine bodyPost_ret (v := .tuple #[.agg #[.int .i64 0, .int .i64 0], .int .i64 2]) (by simp [results, Try.results19, go_sem, v0, v1]) rfl ⟨rfl, (bl.setCell (by simp) _).setCell (by simp) _⟩
theorem punary_bad (op k a b : Int) (w : World) (U : ∀ w, Hid (Calls Try.prog 33 #[.int .i64 k] w (UnSome op w))) (Q : Are1 k a b false) :
   Calls Try.prog 19 #[.int .i64 op, .int .i64 k, .agg #[.int .i64 a, .int .i64 b]] w fun e w' => e = .returned (.tuple #[.agg #[.int .i64 0, .int .i64 0], .int .i64 2]) ∧ Below w.heap.size w w' := by
 have Q := Lib.hid Q
 go_enter Try.func19, Try.ntmps19
 go_wp2_with fail
 have KI : Keeps (w.heap.size) [(w.heap.size, 0, .int .i64 a), (w.heap.size, 1, .int .i64 b)] [(w.heap.size + 1, 0), (w.heap.size + 1, 1)] w ((w.alloc (.cells #[.int .i64 a, .int .i64 b] 23)).alloc (.cells #[.int .i64 0, .int .i64 0] 23)) := by
   refine ⟨?_, ?_, ?_, ?_, by simp; try omega, ((Below.refl _ _).alloc (Nat.le_refl _) _).alloc (by simp) _⟩
   · simp only [fm, nm, false_imp_iff, implies_true, and_true]
     exact ⟨by go_simp, by go_simp⟩
   · simp only [fm, nm, false_imp_iff, implies_true, and_true]
     exact ⟨valAt_some (by go_simp), valAt_some (by go_simp)⟩
   · simp only [fm, nm, false_imp_iff, implies_true, and_true]
     exact ⟨by go_simp, by go_simp⟩
   · simp only [fm, nm, false_imp_iff, implies_true, and_true]
     exact ⟨by simp; try omega, by simp; try omega⟩
 have KI := Lib.hid KI
 generalize ((w.alloc (.cells #[.int .i64 a, .int .i64 b] 23)).alloc (.cells #[.int .i64 0, .int .i64 0] 23)) = W at *
 refine (U _).out.mono ?_
 rintro e w1 ⟨m, g, cap, rfl, hb, L⟩
 have K1 := Lib.hid (KI.out.later hb)
 clear hb KI
 have k0 : w1.cell? ⟨w.heap.size, 0, none⟩ = some (.int .i64 a) := (K1.out).fixed (w.heap.size, 0, .int .i64 a) (by simp)
 have k1 : w1.cell? ⟨w.heap.size, 1, none⟩ = some (.int .i64 b) := (K1.out).fixed (w.heap.size, 1, .int .i64 b) (by simp)
 have v0 : w1.cell? ⟨w.heap.size + 1, 0, none⟩ = some (valAt w1 ⟨w.heap.size + 1, 0, none⟩) := (K1.out).there (w.heap.size + 1, 0) (by simp)
 have f0 : w1.frozen? ⟨w.heap.size + 1, 0, none⟩ = false := (K1.out).froz (w.heap.size + 1, 0) (by simp)
 have v1 : w1.cell? ⟨w.heap.size + 1, 1, none⟩ = some (valAt w1 ⟨w.heap.size + 1, 1, none⟩) := (K1.out).there (w.heap.size + 1, 1) (by simp)
 have f1 : w1.frozen? ⟨w.heap.size + 1, 1, none⟩ = false := (K1.out).froz (w.heap.size + 1, 1) (by simp)
 have z0 : w.heap.size + 1 < w1.heap.size := (K1.out).lt (w.heap.size + 1, 0) (by simp)
 have y0 : w.heap.size < w1.heap.size := by omega
 go_wp2_with fail
 refine (Q.out _ _ _ (by simp) (by omega) ⟨by go_simp, by go_simp⟩).mono ?_
 clear y0 L k0 k1 v0 f0 v1 f1 z0
 rintro e w2 ⟨rfl, hb⟩
 have b2 := ((Below.refl w1.heap.size w1).alloc (Nat.le_refl _) _).trans (hb.mono (by simp))
 have K2 := Lib.hid (K1.out.later b2)
 clear hb b2 K1
 have k0 : w2.cell? ⟨w.heap.size, 0, none⟩ = some (.int .i64 a) := (K2.out).fixed (w.heap.size, 0, .int .i64 a) (by simp)
 have k1 : w2.cell? ⟨w.heap.size, 1, none⟩ = some (.int .i64 b) := (K2.out).fixed (w.heap.size, 1, .int .i64 b) (by simp)
 have v0 : w2.cell? ⟨w.heap.size + 1, 0, none⟩ = some (valAt w2 ⟨w.heap.size + 1, 0, none⟩) := (K2.out).there (w.heap.size + 1, 0) (by simp)
 have f0 : w2.frozen? ⟨w.heap.size + 1, 0, none⟩ = false := (K2.out).froz (w.heap.size + 1, 0) (by simp)
 have v1 : w2.cell? ⟨w.heap.size + 1, 1, none⟩ = some (valAt w2 ⟨w.heap.size + 1, 1, none⟩) := (K2.out).there (w.heap.size + 1, 1) (by simp)
 have f1 : w2.frozen? ⟨w.heap.size + 1, 1, none⟩ = false := (K2.out).froz (w.heap.size + 1, 1) (by simp)
 have z0 : w.heap.size + 1 < w2.heap.size := (K2.out).lt (w.heap.size + 1, 0) (by simp)
 go_wp2
 have bl := K2.out.bl
 refine bodyPost_ret (v := .tuple #[.agg #[.int .i64 0, .int .i64 0], .int .i64 2]) (by simp [results, Try.results19, go_sem, v0, v1]) rfl ⟨rfl, (bl.setCell (by simp) _).setCell (by simp) _⟩
theorem punary_ok (op k a b x y : Int) (w : World) (U : ∀ w, Hid (Calls Try.prog 33 #[.int .i64 k] w (UnFind op a b x y w))) (Q : Are1 k a b true) :
   Calls Try.prog 19 #[.int .i64 op, .int .i64 k, .agg #[.int .i64 a, .int .i64 b]] w fun e w' => e = .returned (.tuple #[.agg #[.int .i64 x, .int .i64 y], .int .i64 0]) ∧ Below w.heap.size w w' := by
 have Q := Lib.hid Q
 go_enter Try.func19, Try.ntmps19
 go_wp2_with fail
 have KI : Keeps (w.heap.size) [(w.heap.size, 0, .int .i64 a), (w.heap.size, 1, .int .i64 b)] [(w.heap.size + 1, 0), (w.heap.size + 1, 1)] w ((w.alloc (.cells #[.int .i64 a, .int .i64 b] 23)).alloc (.cells #[.int .i64 0, .int .i64 0] 23)) := by
   refine ⟨?_, ?_, ?_, ?_, by simp; try omega, ((Below.refl _ _).alloc (Nat.le_refl _) _).alloc (by simp) _⟩
   · simp only [fm, nm, false_imp_iff, implies_true, and_true]
     exact ⟨by go_simp, by go_simp⟩
   · simp only [fm, nm, false_imp_iff, implies_true, and_true]
     exact ⟨valAt_some (by go_simp), valAt_some (by go_simp)⟩
   · simp only [fm, nm, false_imp_iff, implies_true, and_true]
     exact ⟨by go_simp, by go_simp⟩
   · simp only [fm, nm, false_imp_iff, implies_true, and_true]
     exact ⟨by simp; try omega, by simp; try omega⟩
 have KI := Lib.hid KI
 generalize ((w.alloc (.cells #[.int .i64 a, .int .i64 b] 23)).alloc (.cells #[.int .i64 0, .int .i64 0] 23)) = W at *
 refine (U _).out.mono ?_
 rintro e w1 ⟨m, g, cap, rfl, hb, L, hE, hK⟩
 have K1 := Lib.hid (KI.out.later hb)
 have HK := Lib.hid hK
 have eg : ∀ args w, (callFunc g args).run Try.prog w = .ok (.enter g args) w := hE
 clear hb KI hK hE
 have k0 : w1.cell? ⟨w.heap.size, 0, none⟩ = some (.int .i64 a) := (K1.out).fixed (w.heap.size, 0, .int .i64 a) (by simp)
 have k1 : w1.cell? ⟨w.heap.size, 1, none⟩ = some (.int .i64 b) := (K1.out).fixed (w.heap.size, 1, .int .i64 b) (by simp)
 have v0 : w1.cell? ⟨w.heap.size + 1, 0, none⟩ = some (valAt w1 ⟨w.heap.size + 1, 0, none⟩) := (K1.out).there (w.heap.size + 1, 0) (by simp)
 have f0 : w1.frozen? ⟨w.heap.size + 1, 0, none⟩ = false := (K1.out).froz (w.heap.size + 1, 0) (by simp)
 have v1 : w1.cell? ⟨w.heap.size + 1, 1, none⟩ = some (valAt w1 ⟨w.heap.size + 1, 1, none⟩) := (K1.out).there (w.heap.size + 1, 1) (by simp)
 have f1 : w1.frozen? ⟨w.heap.size + 1, 1, none⟩ = false := (K1.out).froz (w.heap.size + 1, 1) (by simp)
 have z0 : w.heap.size + 1 < w1.heap.size := (K1.out).lt (w.heap.size + 1, 0) (by simp)
 have y0 : w.heap.size < w1.heap.size := by omega
 go_wp2_with fail
 refine (Q.out _ _ _ (by simp) (by omega) ⟨by go_simp, by go_simp⟩).mono ?_
 clear y0 L k0 k1 v0 f0 v1 f1 z0
 rintro e w2 ⟨rfl, hb⟩
 have b2 := ((Below.refl w1.heap.size w1).alloc (Nat.le_refl _) _).trans (hb.mono (by simp))
 have K2 := Lib.hid (K1.out.later b2)
 have HK2 := Lib.hid (HK.out.later b2)
 clear hb b2 K1 HK
 have k0 : w2.cell? ⟨w.heap.size, 0, none⟩ = some (.int .i64 a) := (K2.out).fixed (w.heap.size, 0, .int .i64 a) (by simp)
 have k1 : w2.cell? ⟨w.heap.size, 1, none⟩ = some (.int .i64 b) := (K2.out).fixed (w.heap.size, 1, .int .i64 b) (by simp)
 have v0 : w2.cell? ⟨w.heap.size + 1, 0, none⟩ = some (valAt w2 ⟨w.heap.size + 1, 0, none⟩) := (K2.out).there (w.heap.size + 1, 0) (by simp)
 have f0 : w2.frozen? ⟨w.heap.size + 1, 0, none⟩ = false := (K2.out).froz (w.heap.size + 1, 0) (by simp)
 have v1 : w2.cell? ⟨w.heap.size + 1, 1, none⟩ = some (valAt w2 ⟨w.heap.size + 1, 1, none⟩) := (K2.out).there (w.heap.size + 1, 1) (by simp)
 have f1 : w2.frozen? ⟨w.heap.size + 1, 1, none⟩ = false := (K2.out).froz (w.heap.size + 1, 1) (by simp)
 have z0 : w.heap.size + 1 < w2.heap.size := (K2.out).lt (w.heap.size + 1, 0) (by simp)
 go_wp2_with fail
 refine (HK2.out w2 (Below.refl _ _)).mono ?_
 clear k0 k1 v0 f0 v1 f1 z0
 rintro e w3 ⟨rfl, hb⟩
 have K3 := Lib.hid (K2.out.later hb)
 clear hb K2 HK2
 have k0 : w3.cell? ⟨w.heap.size, 0, none⟩ = some (.int .i64 a) := (K3.out).fixed (w.heap.size, 0, .int .i64 a) (by simp)
 have k1 : w3.cell? ⟨w.heap.size, 1, none⟩ = some (.int .i64 b) := (K3.out).fixed (w.heap.size, 1, .int .i64 b) (by simp)
 have v0 : w3.cell? ⟨w.heap.size + 1, 0, none⟩ = some (valAt w3 ⟨w.heap.size + 1, 0, none⟩) := (K3.out).there (w.heap.size + 1, 0) (by simp)
 have f0 : w3.frozen? ⟨w.heap.size + 1, 0, none⟩ = false := (K3.out).froz (w.heap.size + 1, 0) (by simp)
 have v1 : w3.cell? ⟨w.heap.size + 1, 1, none⟩ = some (valAt w3 ⟨w.heap.size + 1, 1, none⟩) := (K3.out).there (w.heap.size + 1, 1) (by simp)
 have f1 : w3.frozen? ⟨w.heap.size + 1, 1, none⟩ = false := (K3.out).froz (w.heap.size + 1, 1) (by simp)
 have z0 : w.heap.size + 1 < w3.heap.size := (K3.out).lt (w.heap.size + 1, 0) (by simp)
 go_wp2
 have bl := K3.out.bl
 refine bodyPost_ret (v := .tuple #[.agg #[.int .i64 x, .int .i64 y], .int .i64 0]) (by simp [results, Try.results19, go_sem, v0, v1]) rfl ⟨rfl, (bl.setCell (by simp) _).setCell (by simp) _⟩
end Go.Proofs.Ytgkhldbnljdeiaa
