/- The contracts of size and sizes of layer 4. -/
import Derived.Test.YtgkhldbnljdeiaaPutRules
import Derived.Test.YtgkhldbnljdeiaaQRngZ7ToRngZ8
set_option maxRecDepth 100000
set_option maxHeartbeats 4000000
set_option linter.unusedSimpArgs false
set_option linter.unusedVariables false
namespace Go.Proofs.Ytgkhldbnljdeiaa
open Go.RowKit RangesMath
attribute [local go_sem] World.setCell_self
attribute [local go_sem ↓] Go.wp_at_zero Go.wp_at_succ
theorem psize (v : Int) (w : World) (h1 : -9223372036854775808 ≤ v) (h2 : v ≤ 9223372036854775807) :
   Calls Try.prog 117 #[.int .i64 v] w fun e w' => e = .returned (.int .u64 (v.natAbs : Int)) ∧ w = w' := by
 by_cases h : v < 0
 · have e : IntKind.u64.wrap (-IntKind.u64.wrap v) = (v.natAbs : Int) := by rw [IntKind.wrap_u64, IntKind.wrap_u64]; omega
   have e := Lib.hid e
   go_enter Try.func117, Try.ntmps117
   go_wp2
   go_ret
   first | exact ⟨rfl, rfl⟩ | exact ⟨congrArg (fun z => Ending.returned (.int .u64 z)) e.out, rfl⟩
 · have e : IntKind.u64.wrap v = (v.natAbs : Int) := by rw [IntKind.wrap_u64]; omega
   have e := Lib.hid e
   have h' : decide (v < 0) = false := by simpa using h
   clear h
   go_enter Try.func117, Try.ntmps117
   go_wp2
   go_ret
   first | exact ⟨rfl, rfl⟩ | exact ⟨congrArg (fun z => Ending.returned (.int .u64 z)) e.out, rfl⟩
def SizeOf (v A : Int) : Prop := ∀ w, Hid (Calls Try.prog 117 #[.int .i64 v] w fun e w' => e = .returned (.int .u64 A) ∧ w = w')
def Has (a b v : Int) (t : Bool) : Prop := ∀ w, Hid (Calls Try.prog 115 #[.agg #[.int .i64 a, .int .i64 b], .int .i64 v] w fun e w' => e = .returned (.bool t) ∧ Below w.heap.size w w')
theorem psizes_lt_true (c d A D : Int) (w : World) (S1 : SizeOf c A) (S2 : SizeOf d D) (Cn : Has c d 0 true) (h : A < D) :
   Calls Try.prog 116 #[.agg #[.int .i64 c, .int .i64 d]] w fun e w' => e = .returned (.tuple #[.int .u64 1, .int .u64 D]) ∧ Below w.heap.size w w' := by
 have S1 := Lib.hid S1
 have S2 := Lib.hid S2
 have Cn := Lib.hid Cn
 go_enter Try.func116, Try.ntmps116
 go_wp2_with fail
 have KI : Keeps (w.heap.size) [(w.heap.size, 0, .int .i64 c), (w.heap.size, 1, .int .i64 d)] [] w (w.alloc (.cells #[.int .i64 c, .int .i64 d] 23)) := by
   refine ⟨?_, ?_, ?_, ?_, by simp; try omega, (Below.refl _ _).alloc (Nat.le_refl _) _⟩
   · simp only [fm, nm, false_imp_iff, implies_true, and_true]
     exact ⟨by go_simp, by go_simp⟩
   · simp
   · simp
   · simp
 have ID := KI.later (Below.refl _ _).drew
 clear KI
 generalize (w.alloc (.cells #[.int .i64 c, .int .i64 d] 23)) = W at *
 refine wp_region_held_drew (S := fun w' => w'.cell? ⟨w.heap.size, 0, none⟩ = some (.int .i64 c) ∧ w'.cell? ⟨w.heap.size, 1, none⟩ = some (.int .i64 d) ∧ Keeps (w.heap.size) [(w.heap.size, 0, .int .i64 c), (w.heap.size, 1, .int .i64 d)] [] w w') (by kernel_rfl) ⟨(ID).fixed (w.heap.size, 0, .int .i64 c) (by simp), (ID).fixed (w.heap.size, 1, .int .i64 d) (by simp), ID⟩ (fun hHeld => ?_)
 refine tk (i := 0) (v := ?_) rfl (by kernel_rfl) (by kernel_rfl) (by kernel_rfl) (fun _ _ _ h => h) (Or.inl ⟨by rfl, ?_⟩) (by assumption) ?_
 rotate_left
 focus (intro w' hSw; (try dsimp only at hSw); go_simp; try with_reducible rfl)
 try simp only [Act.put, p1, p2, p3, p4, p5, p6]
 refine tk (i := 1) (v := ?_) rfl (by kernel_rfl) (by kernel_rfl) (by kernel_rfl) (fun _ _ _ h => h) (Or.inl ⟨by rfl, ?_⟩) (by assumption) ?_
 rotate_left
 focus (intro w' hSw; (try dsimp only at hSw); go_simp; try with_reducible rfl)
 try simp only [Act.put, p1, p2, p3, p4, p5, p6]
 refine tk (i := 3) (v := ?_) rfl (by kernel_rfl) (by kernel_rfl) (by kernel_rfl) (fun _ _ _ h => h) (Or.inl ⟨by rfl, ?_⟩) (by assumption) ?_
 rotate_left
 focus (intro w' hSw; (try dsimp only at hSw); go_simp; try with_reducible rfl)
 try simp only [Act.put, p1, p2, p3, p4, p5, p6]
 refine tk (i := 4) (v := ?_) rfl (by kernel_rfl) (by kernel_rfl) (by kernel_rfl) (fun _ _ _ h => h) (Or.inl ⟨by rfl, ?_⟩) (by assumption) ?_
 rotate_left
 focus (intro w' hSw; (try dsimp only at hSw); go_simp; try with_reducible rfl)
 try simp only [Act.put, p1, p2, p3, p4, p5, p6]
 refine tk (i := 7) (v := ?_) rfl (by kernel_rfl) (by kernel_rfl) (by kernel_rfl) (fun _ _ _ h => h) (Or.inl ⟨by rfl, ?_⟩) (by assumption) ?_
 rotate_left
 focus (intro w' hSw; (try dsimp only at hSw); go_simp; try with_reducible rfl)
 try simp only [Act.put, p1, p2, p3, p4, p5, p6]
 refine tk (i := 8) (v := ?_) rfl (by kernel_rfl) (by kernel_rfl) (by kernel_rfl) (fun _ _ _ h => h) (Or.inl ⟨by rfl, ?_⟩) (by assumption) ?_
 rotate_left
 focus (intro w' hSw; (try dsimp only at hSw); go_simp; try with_reducible rfl)
 try simp only [Act.put, p1, p2, p3, p4, p5, p6]
 refine tk (i := 10) (v := ?_) rfl (by kernel_rfl) (by kernel_rfl) (by kernel_rfl) (fun _ _ _ h => h) (Or.inl ⟨by rfl, ?_⟩) (by assumption) ?_
 rotate_left
 focus (intro w' hSw; (try dsimp only at hSw); go_simp; try with_reducible rfl)
 try simp only [Act.put, p1, p2, p3, p4, p5, p6]
 refine tk (i := 11) (v := ?_) rfl (by kernel_rfl) (by kernel_rfl) (by kernel_rfl) (fun _ _ _ h => h) (Or.inl ⟨by rfl, ?_⟩) (by assumption) ?_
 rotate_left
 focus (intro w' hSw; (try dsimp only at hSw); go_simp; try with_reducible rfl)
 try simp only [Act.put, p1, p2, p3, p4, p5, p6]
 refine rd (rs := [2]) (by kernel_rfl) (by simp) ?_
 refine AllReadyH.cons rfl (fun K hK => ?_) AllReadyH.nil
 go_simp
 go_at_call 117
 refine ((S1.out _).out).mono ?_
 rintro eq1 wq1 ⟨rfl, rfl⟩
 go_wp2_with fail
 refine hK.out _ _ ⟨(ID).fixed (w.heap.size, 0, .int .i64 c) (by simp), (ID).fixed (w.heap.size, 1, .int .i64 d) (by simp), ID⟩ (fun hHeld => ?_)
 clear hK K
 try simp only [Act.put, p1, p2, p3, p4, p5, p6]
 refine rd (rs := [5]) (by kernel_rfl) (by simp) ?_
 refine AllReadyH.cons rfl (fun K hK => ?_) AllReadyH.nil
 go_simp
 go_at_call 117
 refine ((S2.out _).out).mono ?_
 rintro eq2 wq2 ⟨rfl, rfl⟩
 go_wp2_with fail
 refine hK.out _ _ ⟨(ID).fixed (w.heap.size, 0, .int .i64 c) (by simp), (ID).fixed (w.heap.size, 1, .int .i64 d) (by simp), ID⟩ (fun hHeld => ?_)
 clear hK K
 try simp only [Act.put, p1, p2, p3, p4, p5, p6]
 refine tk (i := 6) (v := ?_) rfl (by kernel_rfl) (by kernel_rfl) (by kernel_rfl) (fun _ _ _ h => h) (Or.inl ⟨by rfl, ?_⟩) (by assumption) ?_
 rotate_left
 focus (intro w' hSw; (try dsimp only at hSw); go_simp; try with_reducible rfl)
 try simp only [Act.put, p1, p2, p3, p4, p5, p6]
 refine rd (rs := [9]) (by kernel_rfl) (by simp) ?_
 refine AllReadyH.cons rfl (fun K hK => ?_) AllReadyH.nil
 go_simp
 go_at_call 117
 refine ((S1.out _).out).mono ?_
 rintro eq3 wq3 ⟨rfl, rfl⟩
 go_wp2_with fail
 refine hK.out _ _ ⟨(ID).fixed (w.heap.size, 0, .int .i64 c) (by simp), (ID).fixed (w.heap.size, 1, .int .i64 d) (by simp), ID⟩ (fun hHeld => ?_)
 clear hK K
 try simp only [Act.put, p1, p2, p3, p4, p5, p6]
 refine rd (rs := [12]) (by kernel_rfl) (by simp) ?_
 refine AllReadyH.cons rfl (fun K hK => ?_) AllReadyH.nil
 go_simp
 go_at_call 117
 refine ((S2.out _).out).mono ?_
 rintro eq4 wq4 ⟨rfl, rfl⟩
 go_wp2_with fail
 refine hK.out _ _ ⟨(ID).fixed (w.heap.size, 0, .int .i64 c) (by simp), (ID).fixed (w.heap.size, 1, .int .i64 d) (by simp), ID⟩ (fun hHeld => ?_)
 clear hK K
 try simp only [Act.put, p1, p2, p3, p4, p5, p6]
 refine tk (i := 13) (v := ?_) rfl (by kernel_rfl) (by kernel_rfl) (by kernel_rfl) (fun _ _ _ h => h) (Or.inl ⟨by rfl, ?_⟩) (by assumption) ?_
 rotate_left
 focus (intro w' hSw; (try dsimp only at hSw); go_simp; try with_reducible rfl)
 try simp only [Act.put, p1, p2, p3, p4, p5, p6]
 refine tk (i := 14) (v := ?_) rfl (by kernel_rfl) (by kernel_rfl) (by kernel_rfl) (fun _ _ _ h => h) (Or.inl ⟨by rfl, ?_⟩) (by assumption) ?_
 rotate_left
 focus (intro w' hSw; (try dsimp only at hSw); go_simp; try with_reducible rfl)
 try simp only [Act.put, p1, p2, p3, p4, p5, p6]
 refine tk (i := 15) (v := ?_) rfl (by kernel_rfl) (by kernel_rfl) (by kernel_rfl) (fun _ _ _ h => h) (Or.inl ⟨by rfl, ?_⟩) (by assumption) ?_
 rotate_left
 focus (intro w' hSw; (try dsimp only at hSw); go_simp; try with_reducible rfl)
 try simp only [Act.put, p1, p2, p3, p4, p5, p6]
 refine wpAnyH_done (by kernel_rfl) ?_ _
 have k0 : W.drew.cell? ⟨w.heap.size, 0, none⟩ = some (.int .i64 c) := ID.fixed (w.heap.size, 0, .int .i64 c) (by simp)
 have k1 : W.drew.cell? ⟨w.heap.size, 1, none⟩ = some (.int .i64 d) := ID.fixed (w.heap.size, 1, .int .i64 d) (by simp)
 clear hHeld
 generalize W.drew = V at *
 go_wp2_with (go_at_call 115; refine (Cn.out _).out.mono ?_; rintro e w' ⟨rfl, hB⟩)
 go_ret2
 exact ⟨rfl, (ID.later hB).bl⟩
theorem psizes_lt_false (c d A D : Int) (w : World) (S1 : SizeOf c A) (S2 : SizeOf d D) (Cn : Has c d 0 false) (h : A < D) :
   Calls Try.prog 116 #[.agg #[.int .i64 c, .int .i64 d]] w fun e w' => e = .returned (.tuple #[.int .u64 A, .int .u64 D]) ∧ Below w.heap.size w w' := by
 have S1 := Lib.hid S1
 have S2 := Lib.hid S2
 have Cn := Lib.hid Cn
 go_enter Try.func116, Try.ntmps116
 go_wp2_with fail
 have KI : Keeps (w.heap.size) [(w.heap.size, 0, .int .i64 c), (w.heap.size, 1, .int .i64 d)] [] w (w.alloc (.cells #[.int .i64 c, .int .i64 d] 23)) := by
   refine ⟨?_, ?_, ?_, ?_, by simp; try omega, (Below.refl _ _).alloc (Nat.le_refl _) _⟩
   · simp only [fm, nm, false_imp_iff, implies_true, and_true]
     exact ⟨by go_simp, by go_simp⟩
   · simp
   · simp
   · simp
 have ID := KI.later (Below.refl _ _).drew
 clear KI
 generalize (w.alloc (.cells #[.int .i64 c, .int .i64 d] 23)) = W at *
 refine wp_region_held_drew (S := fun w' => w'.cell? ⟨w.heap.size, 0, none⟩ = some (.int .i64 c) ∧ w'.cell? ⟨w.heap.size, 1, none⟩ = some (.int .i64 d) ∧ Keeps (w.heap.size) [(w.heap.size, 0, .int .i64 c), (w.heap.size, 1, .int .i64 d)] [] w w') (by kernel_rfl) ⟨(ID).fixed (w.heap.size, 0, .int .i64 c) (by simp), (ID).fixed (w.heap.size, 1, .int .i64 d) (by simp), ID⟩ (fun hHeld => ?_)
 refine tk (i := 0) (v := ?_) rfl (by kernel_rfl) (by kernel_rfl) (by kernel_rfl) (fun _ _ _ h => h) (Or.inl ⟨by rfl, ?_⟩) (by assumption) ?_
 rotate_left
 focus (intro w' hSw; (try dsimp only at hSw); go_simp; try with_reducible rfl)
 try simp only [Act.put, p1, p2, p3, p4, p5, p6]
 refine tk (i := 1) (v := ?_) rfl (by kernel_rfl) (by kernel_rfl) (by kernel_rfl) (fun _ _ _ h => h) (Or.inl ⟨by rfl, ?_⟩) (by assumption) ?_
 rotate_left
 focus (intro w' hSw; (try dsimp only at hSw); go_simp; try with_reducible rfl)
 try simp only [Act.put, p1, p2, p3, p4, p5, p6]
 refine tk (i := 3) (v := ?_) rfl (by kernel_rfl) (by kernel_rfl) (by kernel_rfl) (fun _ _ _ h => h) (Or.inl ⟨by rfl, ?_⟩) (by assumption) ?_
 rotate_left
 focus (intro w' hSw; (try dsimp only at hSw); go_simp; try with_reducible rfl)
 try simp only [Act.put, p1, p2, p3, p4, p5, p6]
 refine tk (i := 4) (v := ?_) rfl (by kernel_rfl) (by kernel_rfl) (by kernel_rfl) (fun _ _ _ h => h) (Or.inl ⟨by rfl, ?_⟩) (by assumption) ?_
 rotate_left
 focus (intro w' hSw; (try dsimp only at hSw); go_simp; try with_reducible rfl)
 try simp only [Act.put, p1, p2, p3, p4, p5, p6]
 refine tk (i := 7) (v := ?_) rfl (by kernel_rfl) (by kernel_rfl) (by kernel_rfl) (fun _ _ _ h => h) (Or.inl ⟨by rfl, ?_⟩) (by assumption) ?_
 rotate_left
 focus (intro w' hSw; (try dsimp only at hSw); go_simp; try with_reducible rfl)
 try simp only [Act.put, p1, p2, p3, p4, p5, p6]
 refine tk (i := 8) (v := ?_) rfl (by kernel_rfl) (by kernel_rfl) (by kernel_rfl) (fun _ _ _ h => h) (Or.inl ⟨by rfl, ?_⟩) (by assumption) ?_
 rotate_left
 focus (intro w' hSw; (try dsimp only at hSw); go_simp; try with_reducible rfl)
 try simp only [Act.put, p1, p2, p3, p4, p5, p6]
 refine tk (i := 10) (v := ?_) rfl (by kernel_rfl) (by kernel_rfl) (by kernel_rfl) (fun _ _ _ h => h) (Or.inl ⟨by rfl, ?_⟩) (by assumption) ?_
 rotate_left
 focus (intro w' hSw; (try dsimp only at hSw); go_simp; try with_reducible rfl)
 try simp only [Act.put, p1, p2, p3, p4, p5, p6]
 refine tk (i := 11) (v := ?_) rfl (by kernel_rfl) (by kernel_rfl) (by kernel_rfl) (fun _ _ _ h => h) (Or.inl ⟨by rfl, ?_⟩) (by assumption) ?_
 rotate_left
 focus (intro w' hSw; (try dsimp only at hSw); go_simp; try with_reducible rfl)
 try simp only [Act.put, p1, p2, p3, p4, p5, p6]
 refine rd (rs := [2]) (by kernel_rfl) (by simp) ?_
 refine AllReadyH.cons rfl (fun K hK => ?_) AllReadyH.nil
 go_simp
 go_at_call 117
 refine ((S1.out _).out).mono ?_
 rintro eq1 wq1 ⟨rfl, rfl⟩
 go_wp2_with fail
 refine hK.out _ _ ⟨(ID).fixed (w.heap.size, 0, .int .i64 c) (by simp), (ID).fixed (w.heap.size, 1, .int .i64 d) (by simp), ID⟩ (fun hHeld => ?_)
 clear hK K
 try simp only [Act.put, p1, p2, p3, p4, p5, p6]
 refine rd (rs := [5]) (by kernel_rfl) (by simp) ?_
 refine AllReadyH.cons rfl (fun K hK => ?_) AllReadyH.nil
 go_simp
 go_at_call 117
 refine ((S2.out _).out).mono ?_
 rintro eq2 wq2 ⟨rfl, rfl⟩
 go_wp2_with fail
 refine hK.out _ _ ⟨(ID).fixed (w.heap.size, 0, .int .i64 c) (by simp), (ID).fixed (w.heap.size, 1, .int .i64 d) (by simp), ID⟩ (fun hHeld => ?_)
 clear hK K
 try simp only [Act.put, p1, p2, p3, p4, p5, p6]
 refine tk (i := 6) (v := ?_) rfl (by kernel_rfl) (by kernel_rfl) (by kernel_rfl) (fun _ _ _ h => h) (Or.inl ⟨by rfl, ?_⟩) (by assumption) ?_
 rotate_left
 focus (intro w' hSw; (try dsimp only at hSw); go_simp; try with_reducible rfl)
 try simp only [Act.put, p1, p2, p3, p4, p5, p6]
 refine rd (rs := [9]) (by kernel_rfl) (by simp) ?_
 refine AllReadyH.cons rfl (fun K hK => ?_) AllReadyH.nil
 go_simp
 go_at_call 117
 refine ((S1.out _).out).mono ?_
 rintro eq3 wq3 ⟨rfl, rfl⟩
 go_wp2_with fail
 refine hK.out _ _ ⟨(ID).fixed (w.heap.size, 0, .int .i64 c) (by simp), (ID).fixed (w.heap.size, 1, .int .i64 d) (by simp), ID⟩ (fun hHeld => ?_)
 clear hK K
 try simp only [Act.put, p1, p2, p3, p4, p5, p6]
 refine rd (rs := [12]) (by kernel_rfl) (by simp) ?_
 refine AllReadyH.cons rfl (fun K hK => ?_) AllReadyH.nil
 go_simp
 go_at_call 117
 refine ((S2.out _).out).mono ?_
 rintro eq4 wq4 ⟨rfl, rfl⟩
 go_wp2_with fail
 refine hK.out _ _ ⟨(ID).fixed (w.heap.size, 0, .int .i64 c) (by simp), (ID).fixed (w.heap.size, 1, .int .i64 d) (by simp), ID⟩ (fun hHeld => ?_)
 clear hK K
 try simp only [Act.put, p1, p2, p3, p4, p5, p6]
 refine tk (i := 13) (v := ?_) rfl (by kernel_rfl) (by kernel_rfl) (by kernel_rfl) (fun _ _ _ h => h) (Or.inl ⟨by rfl, ?_⟩) (by assumption) ?_
 rotate_left
 focus (intro w' hSw; (try dsimp only at hSw); go_simp; try with_reducible rfl)
 try simp only [Act.put, p1, p2, p3, p4, p5, p6]
 refine tk (i := 14) (v := ?_) rfl (by kernel_rfl) (by kernel_rfl) (by kernel_rfl) (fun _ _ _ h => h) (Or.inl ⟨by rfl, ?_⟩) (by assumption) ?_
 rotate_left
 focus (intro w' hSw; (try dsimp only at hSw); go_simp; try with_reducible rfl)
 try simp only [Act.put, p1, p2, p3, p4, p5, p6]
 refine tk (i := 15) (v := ?_) rfl (by kernel_rfl) (by kernel_rfl) (by kernel_rfl) (fun _ _ _ h => h) (Or.inl ⟨by rfl, ?_⟩) (by assumption) ?_
 rotate_left
 focus (intro w' hSw; (try dsimp only at hSw); go_simp; try with_reducible rfl)
 try simp only [Act.put, p1, p2, p3, p4, p5, p6]
 refine wpAnyH_done (by kernel_rfl) ?_ _
 have k0 : W.drew.cell? ⟨w.heap.size, 0, none⟩ = some (.int .i64 c) := ID.fixed (w.heap.size, 0, .int .i64 c) (by simp)
 have k1 : W.drew.cell? ⟨w.heap.size, 1, none⟩ = some (.int .i64 d) := ID.fixed (w.heap.size, 1, .int .i64 d) (by simp)
 clear hHeld
 generalize W.drew = V at *
 go_wp2_with (go_at_call 115; refine (Cn.out _).out.mono ?_; rintro e w' ⟨rfl, hB⟩)
 go_ret2
 exact ⟨rfl, (ID.later hB).bl⟩
theorem psizes_gt_true (c d A D : Int) (w : World) (S1 : SizeOf c A) (S2 : SizeOf d D) (Cn : Has c d 0 true) (h : D < A) :
   Calls Try.prog 116 #[.agg #[.int .i64 c, .int .i64 d]] w fun e w' => e = .returned (.tuple #[.int .u64 1, .int .u64 A]) ∧ Below w.heap.size w w' := by
 have S1 := Lib.hid S1
 have S2 := Lib.hid S2
 have Cn := Lib.hid Cn
 go_enter Try.func116, Try.ntmps116
 go_wp2_with fail
 have KI : Keeps (w.heap.size) [(w.heap.size, 0, .int .i64 c), (w.heap.size, 1, .int .i64 d)] [] w (w.alloc (.cells #[.int .i64 c, .int .i64 d] 23)) := by
   refine ⟨?_, ?_, ?_, ?_, by simp; try omega, (Below.refl _ _).alloc (Nat.le_refl _) _⟩
   · simp only [fm, nm, false_imp_iff, implies_true, and_true]
     exact ⟨by go_simp, by go_simp⟩
   · simp
   · simp
   · simp
 have ID := KI.later (Below.refl _ _).drew
 clear KI
 generalize (w.alloc (.cells #[.int .i64 c, .int .i64 d] 23)) = W at *
 refine wp_region_held_drew (S := fun w' => w'.cell? ⟨w.heap.size, 0, none⟩ = some (.int .i64 c) ∧ w'.cell? ⟨w.heap.size, 1, none⟩ = some (.int .i64 d) ∧ Keeps (w.heap.size) [(w.heap.size, 0, .int .i64 c), (w.heap.size, 1, .int .i64 d)] [] w w') (by kernel_rfl) ⟨(ID).fixed (w.heap.size, 0, .int .i64 c) (by simp), (ID).fixed (w.heap.size, 1, .int .i64 d) (by simp), ID⟩ (fun hHeld => ?_)
 refine tk (i := 0) (v := ?_) rfl (by kernel_rfl) (by kernel_rfl) (by kernel_rfl) (fun _ _ _ h => h) (Or.inl ⟨by rfl, ?_⟩) (by assumption) ?_
 rotate_left
 focus (intro w' hSw; (try dsimp only at hSw); go_simp; try with_reducible rfl)
 try simp only [Act.put, p1, p2, p3, p4, p5, p6]
 refine tk (i := 1) (v := ?_) rfl (by kernel_rfl) (by kernel_rfl) (by kernel_rfl) (fun _ _ _ h => h) (Or.inl ⟨by rfl, ?_⟩) (by assumption) ?_
 rotate_left
 focus (intro w' hSw; (try dsimp only at hSw); go_simp; try with_reducible rfl)
 try simp only [Act.put, p1, p2, p3, p4, p5, p6]
 refine tk (i := 3) (v := ?_) rfl (by kernel_rfl) (by kernel_rfl) (by kernel_rfl) (fun _ _ _ h => h) (Or.inl ⟨by rfl, ?_⟩) (by assumption) ?_
 rotate_left
 focus (intro w' hSw; (try dsimp only at hSw); go_simp; try with_reducible rfl)
 try simp only [Act.put, p1, p2, p3, p4, p5, p6]
 refine tk (i := 4) (v := ?_) rfl (by kernel_rfl) (by kernel_rfl) (by kernel_rfl) (fun _ _ _ h => h) (Or.inl ⟨by rfl, ?_⟩) (by assumption) ?_
 rotate_left
 focus (intro w' hSw; (try dsimp only at hSw); go_simp; try with_reducible rfl)
 try simp only [Act.put, p1, p2, p3, p4, p5, p6]
 refine tk (i := 7) (v := ?_) rfl (by kernel_rfl) (by kernel_rfl) (by kernel_rfl) (fun _ _ _ h => h) (Or.inl ⟨by rfl, ?_⟩) (by assumption) ?_
 rotate_left
 focus (intro w' hSw; (try dsimp only at hSw); go_simp; try with_reducible rfl)
 try simp only [Act.put, p1, p2, p3, p4, p5, p6]
 refine tk (i := 8) (v := ?_) rfl (by kernel_rfl) (by kernel_rfl) (by kernel_rfl) (fun _ _ _ h => h) (Or.inl ⟨by rfl, ?_⟩) (by assumption) ?_
 rotate_left
 focus (intro w' hSw; (try dsimp only at hSw); go_simp; try with_reducible rfl)
 try simp only [Act.put, p1, p2, p3, p4, p5, p6]
 refine tk (i := 10) (v := ?_) rfl (by kernel_rfl) (by kernel_rfl) (by kernel_rfl) (fun _ _ _ h => h) (Or.inl ⟨by rfl, ?_⟩) (by assumption) ?_
 rotate_left
 focus (intro w' hSw; (try dsimp only at hSw); go_simp; try with_reducible rfl)
 try simp only [Act.put, p1, p2, p3, p4, p5, p6]
 refine tk (i := 11) (v := ?_) rfl (by kernel_rfl) (by kernel_rfl) (by kernel_rfl) (fun _ _ _ h => h) (Or.inl ⟨by rfl, ?_⟩) (by assumption) ?_
 rotate_left
 focus (intro w' hSw; (try dsimp only at hSw); go_simp; try with_reducible rfl)
 try simp only [Act.put, p1, p2, p3, p4, p5, p6]
 refine rd (rs := [2]) (by kernel_rfl) (by simp) ?_
 refine AllReadyH.cons rfl (fun K hK => ?_) AllReadyH.nil
 go_simp
 go_at_call 117
 refine ((S1.out _).out).mono ?_
 rintro eq1 wq1 ⟨rfl, rfl⟩
 go_wp2_with fail
 refine hK.out _ _ ⟨(ID).fixed (w.heap.size, 0, .int .i64 c) (by simp), (ID).fixed (w.heap.size, 1, .int .i64 d) (by simp), ID⟩ (fun hHeld => ?_)
 clear hK K
 try simp only [Act.put, p1, p2, p3, p4, p5, p6]
 refine rd (rs := [5]) (by kernel_rfl) (by simp) ?_
 refine AllReadyH.cons rfl (fun K hK => ?_) AllReadyH.nil
 go_simp
 go_at_call 117
 refine ((S2.out _).out).mono ?_
 rintro eq2 wq2 ⟨rfl, rfl⟩
 go_wp2_with fail
 refine hK.out _ _ ⟨(ID).fixed (w.heap.size, 0, .int .i64 c) (by simp), (ID).fixed (w.heap.size, 1, .int .i64 d) (by simp), ID⟩ (fun hHeld => ?_)
 clear hK K
 try simp only [Act.put, p1, p2, p3, p4, p5, p6]
 refine tk (i := 6) (v := ?_) rfl (by kernel_rfl) (by kernel_rfl) (by kernel_rfl) (fun _ _ _ h => h) (Or.inl ⟨by rfl, ?_⟩) (by assumption) ?_
 rotate_left
 focus (intro w' hSw; (try dsimp only at hSw); go_simp; try with_reducible rfl)
 try simp only [Act.put, p1, p2, p3, p4, p5, p6]
 refine rd (rs := [9]) (by kernel_rfl) (by simp) ?_
 refine AllReadyH.cons rfl (fun K hK => ?_) AllReadyH.nil
 go_simp
 go_at_call 117
 refine ((S1.out _).out).mono ?_
 rintro eq3 wq3 ⟨rfl, rfl⟩
 go_wp2_with fail
 refine hK.out _ _ ⟨(ID).fixed (w.heap.size, 0, .int .i64 c) (by simp), (ID).fixed (w.heap.size, 1, .int .i64 d) (by simp), ID⟩ (fun hHeld => ?_)
 clear hK K
 try simp only [Act.put, p1, p2, p3, p4, p5, p6]
 refine rd (rs := [12]) (by kernel_rfl) (by simp) ?_
 refine AllReadyH.cons rfl (fun K hK => ?_) AllReadyH.nil
 go_simp
 go_at_call 117
 refine ((S2.out _).out).mono ?_
 rintro eq4 wq4 ⟨rfl, rfl⟩
 go_wp2_with fail
 refine hK.out _ _ ⟨(ID).fixed (w.heap.size, 0, .int .i64 c) (by simp), (ID).fixed (w.heap.size, 1, .int .i64 d) (by simp), ID⟩ (fun hHeld => ?_)
 clear hK K
 try simp only [Act.put, p1, p2, p3, p4, p5, p6]
 refine tk (i := 13) (v := ?_) rfl (by kernel_rfl) (by kernel_rfl) (by kernel_rfl) (fun _ _ _ h => h) (Or.inl ⟨by rfl, ?_⟩) (by assumption) ?_
 rotate_left
 focus (intro w' hSw; (try dsimp only at hSw); go_simp; try with_reducible rfl)
 try simp only [Act.put, p1, p2, p3, p4, p5, p6]
 refine tk (i := 14) (v := ?_) rfl (by kernel_rfl) (by kernel_rfl) (by kernel_rfl) (fun _ _ _ h => h) (Or.inl ⟨by rfl, ?_⟩) (by assumption) ?_
 rotate_left
 focus (intro w' hSw; (try dsimp only at hSw); go_simp; try with_reducible rfl)
 try simp only [Act.put, p1, p2, p3, p4, p5, p6]
 refine tk (i := 15) (v := ?_) rfl (by kernel_rfl) (by kernel_rfl) (by kernel_rfl) (fun _ _ _ h => h) (Or.inl ⟨by rfl, ?_⟩) (by assumption) ?_
 rotate_left
 focus (intro w' hSw; (try dsimp only at hSw); go_simp; try with_reducible rfl)
 try simp only [Act.put, p1, p2, p3, p4, p5, p6]
 refine wpAnyH_done (by kernel_rfl) ?_ _
 have k0 : W.drew.cell? ⟨w.heap.size, 0, none⟩ = some (.int .i64 c) := ID.fixed (w.heap.size, 0, .int .i64 c) (by simp)
 have k1 : W.drew.cell? ⟨w.heap.size, 1, none⟩ = some (.int .i64 d) := ID.fixed (w.heap.size, 1, .int .i64 d) (by simp)
 clear hHeld
 generalize W.drew = V at *
 go_wp2_with (go_at_call 115; refine (Cn.out _).out.mono ?_; rintro e w' ⟨rfl, hB⟩)
 go_ret2
 exact ⟨rfl, (ID.later hB).bl⟩
theorem psizes_gt_false (c d A D : Int) (w : World) (S1 : SizeOf c A) (S2 : SizeOf d D) (Cn : Has c d 0 false) (h : D < A) :
   Calls Try.prog 116 #[.agg #[.int .i64 c, .int .i64 d]] w fun e w' => e = .returned (.tuple #[.int .u64 D, .int .u64 A]) ∧ Below w.heap.size w w' := by
 have S1 := Lib.hid S1
 have S2 := Lib.hid S2
 have Cn := Lib.hid Cn
 go_enter Try.func116, Try.ntmps116
 go_wp2_with fail
 have KI : Keeps (w.heap.size) [(w.heap.size, 0, .int .i64 c), (w.heap.size, 1, .int .i64 d)] [] w (w.alloc (.cells #[.int .i64 c, .int .i64 d] 23)) := by
   refine ⟨?_, ?_, ?_, ?_, by simp; try omega, (Below.refl _ _).alloc (Nat.le_refl _) _⟩
   · simp only [fm, nm, false_imp_iff, implies_true, and_true]
     exact ⟨by go_simp, by go_simp⟩
   · simp
   · simp
   · simp
 have ID := KI.later (Below.refl _ _).drew
 clear KI
 generalize (w.alloc (.cells #[.int .i64 c, .int .i64 d] 23)) = W at *
 refine wp_region_held_drew (S := fun w' => w'.cell? ⟨w.heap.size, 0, none⟩ = some (.int .i64 c) ∧ w'.cell? ⟨w.heap.size, 1, none⟩ = some (.int .i64 d) ∧ Keeps (w.heap.size) [(w.heap.size, 0, .int .i64 c), (w.heap.size, 1, .int .i64 d)] [] w w') (by kernel_rfl) ⟨(ID).fixed (w.heap.size, 0, .int .i64 c) (by simp), (ID).fixed (w.heap.size, 1, .int .i64 d) (by simp), ID⟩ (fun hHeld => ?_)
 refine tk (i := 0) (v := ?_) rfl (by kernel_rfl) (by kernel_rfl) (by kernel_rfl) (fun _ _ _ h => h) (Or.inl ⟨by rfl, ?_⟩) (by assumption) ?_
 rotate_left
 focus (intro w' hSw; (try dsimp only at hSw); go_simp; try with_reducible rfl)
 try simp only [Act.put, p1, p2, p3, p4, p5, p6]
 refine tk (i := 1) (v := ?_) rfl (by kernel_rfl) (by kernel_rfl) (by kernel_rfl) (fun _ _ _ h => h) (Or.inl ⟨by rfl, ?_⟩) (by assumption) ?_
 rotate_left
 focus (intro w' hSw; (try dsimp only at hSw); go_simp; try with_reducible rfl)
 try simp only [Act.put, p1, p2, p3, p4, p5, p6]
 refine tk (i := 3) (v := ?_) rfl (by kernel_rfl) (by kernel_rfl) (by kernel_rfl) (fun _ _ _ h => h) (Or.inl ⟨by rfl, ?_⟩) (by assumption) ?_
 rotate_left
 focus (intro w' hSw; (try dsimp only at hSw); go_simp; try with_reducible rfl)
 try simp only [Act.put, p1, p2, p3, p4, p5, p6]
 refine tk (i := 4) (v := ?_) rfl (by kernel_rfl) (by kernel_rfl) (by kernel_rfl) (fun _ _ _ h => h) (Or.inl ⟨by rfl, ?_⟩) (by assumption) ?_
 rotate_left
 focus (intro w' hSw; (try dsimp only at hSw); go_simp; try with_reducible rfl)
 try simp only [Act.put, p1, p2, p3, p4, p5, p6]
 refine tk (i := 7) (v := ?_) rfl (by kernel_rfl) (by kernel_rfl) (by kernel_rfl) (fun _ _ _ h => h) (Or.inl ⟨by rfl, ?_⟩) (by assumption) ?_
 rotate_left
 focus (intro w' hSw; (try dsimp only at hSw); go_simp; try with_reducible rfl)
 try simp only [Act.put, p1, p2, p3, p4, p5, p6]
 refine tk (i := 8) (v := ?_) rfl (by kernel_rfl) (by kernel_rfl) (by kernel_rfl) (fun _ _ _ h => h) (Or.inl ⟨by rfl, ?_⟩) (by assumption) ?_
 rotate_left
 focus (intro w' hSw; (try dsimp only at hSw); go_simp; try with_reducible rfl)
 try simp only [Act.put, p1, p2, p3, p4, p5, p6]
 refine tk (i := 10) (v := ?_) rfl (by kernel_rfl) (by kernel_rfl) (by kernel_rfl) (fun _ _ _ h => h) (Or.inl ⟨by rfl, ?_⟩) (by assumption) ?_
 rotate_left
 focus (intro w' hSw; (try dsimp only at hSw); go_simp; try with_reducible rfl)
 try simp only [Act.put, p1, p2, p3, p4, p5, p6]
 refine tk (i := 11) (v := ?_) rfl (by kernel_rfl) (by kernel_rfl) (by kernel_rfl) (fun _ _ _ h => h) (Or.inl ⟨by rfl, ?_⟩) (by assumption) ?_
 rotate_left
 focus (intro w' hSw; (try dsimp only at hSw); go_simp; try with_reducible rfl)
 try simp only [Act.put, p1, p2, p3, p4, p5, p6]
 refine rd (rs := [2]) (by kernel_rfl) (by simp) ?_
 refine AllReadyH.cons rfl (fun K hK => ?_) AllReadyH.nil
 go_simp
 go_at_call 117
 refine ((S1.out _).out).mono ?_
 rintro eq1 wq1 ⟨rfl, rfl⟩
 go_wp2_with fail
 refine hK.out _ _ ⟨(ID).fixed (w.heap.size, 0, .int .i64 c) (by simp), (ID).fixed (w.heap.size, 1, .int .i64 d) (by simp), ID⟩ (fun hHeld => ?_)
 clear hK K
 try simp only [Act.put, p1, p2, p3, p4, p5, p6]
 refine rd (rs := [5]) (by kernel_rfl) (by simp) ?_
 refine AllReadyH.cons rfl (fun K hK => ?_) AllReadyH.nil
 go_simp
 go_at_call 117
 refine ((S2.out _).out).mono ?_
 rintro eq2 wq2 ⟨rfl, rfl⟩
 go_wp2_with fail
 refine hK.out _ _ ⟨(ID).fixed (w.heap.size, 0, .int .i64 c) (by simp), (ID).fixed (w.heap.size, 1, .int .i64 d) (by simp), ID⟩ (fun hHeld => ?_)
 clear hK K
 try simp only [Act.put, p1, p2, p3, p4, p5, p6]
 refine tk (i := 6) (v := ?_) rfl (by kernel_rfl) (by kernel_rfl) (by kernel_rfl) (fun _ _ _ h => h) (Or.inl ⟨by rfl, ?_⟩) (by assumption) ?_
 rotate_left
 focus (intro w' hSw; (try dsimp only at hSw); go_simp; try with_reducible rfl)
 try simp only [Act.put, p1, p2, p3, p4, p5, p6]
 refine rd (rs := [9]) (by kernel_rfl) (by simp) ?_
 refine AllReadyH.cons rfl (fun K hK => ?_) AllReadyH.nil
 go_simp
 go_at_call 117
 refine ((S1.out _).out).mono ?_
 rintro eq3 wq3 ⟨rfl, rfl⟩
 go_wp2_with fail
 refine hK.out _ _ ⟨(ID).fixed (w.heap.size, 0, .int .i64 c) (by simp), (ID).fixed (w.heap.size, 1, .int .i64 d) (by simp), ID⟩ (fun hHeld => ?_)
 clear hK K
 try simp only [Act.put, p1, p2, p3, p4, p5, p6]
 refine rd (rs := [12]) (by kernel_rfl) (by simp) ?_
 refine AllReadyH.cons rfl (fun K hK => ?_) AllReadyH.nil
 go_simp
 go_at_call 117
 refine ((S2.out _).out).mono ?_
 rintro eq4 wq4 ⟨rfl, rfl⟩
 go_wp2_with fail
 refine hK.out _ _ ⟨(ID).fixed (w.heap.size, 0, .int .i64 c) (by simp), (ID).fixed (w.heap.size, 1, .int .i64 d) (by simp), ID⟩ (fun hHeld => ?_)
 clear hK K
 try simp only [Act.put, p1, p2, p3, p4, p5, p6]
 refine tk (i := 13) (v := ?_) rfl (by kernel_rfl) (by kernel_rfl) (by kernel_rfl) (fun _ _ _ h => h) (Or.inl ⟨by rfl, ?_⟩) (by assumption) ?_
 rotate_left
 focus (intro w' hSw; (try dsimp only at hSw); go_simp; try with_reducible rfl)
 try simp only [Act.put, p1, p2, p3, p4, p5, p6]
 refine tk (i := 14) (v := ?_) rfl (by kernel_rfl) (by kernel_rfl) (by kernel_rfl) (fun _ _ _ h => h) (Or.inl ⟨by rfl, ?_⟩) (by assumption) ?_
 rotate_left
 focus (intro w' hSw; (try dsimp only at hSw); go_simp; try with_reducible rfl)
 try simp only [Act.put, p1, p2, p3, p4, p5, p6]
 refine tk (i := 15) (v := ?_) rfl (by kernel_rfl) (by kernel_rfl) (by kernel_rfl) (fun _ _ _ h => h) (Or.inl ⟨by rfl, ?_⟩) (by assumption) ?_
 rotate_left
 focus (intro w' hSw; (try dsimp only at hSw); go_simp; try with_reducible rfl)
 try simp only [Act.put, p1, p2, p3, p4, p5, p6]
 refine wpAnyH_done (by kernel_rfl) ?_ _
 have k0 : W.drew.cell? ⟨w.heap.size, 0, none⟩ = some (.int .i64 c) := ID.fixed (w.heap.size, 0, .int .i64 c) (by simp)
 have k1 : W.drew.cell? ⟨w.heap.size, 1, none⟩ = some (.int .i64 d) := ID.fixed (w.heap.size, 1, .int .i64 d) (by simp)
 clear hHeld
 generalize W.drew = V at *
 go_wp2_with (go_at_call 115; refine (Cn.out _).out.mono ?_; rintro e w' ⟨rfl, hB⟩)
 go_ret2
 exact ⟨rfl, (ID.later hB).bl⟩
theorem psizes_eq_true (c d A D : Int) (w : World) (S1 : SizeOf c A) (S2 : SizeOf d A) (Cn : Has c d 0 true) :
   Calls Try.prog 116 #[.agg #[.int .i64 c, .int .i64 d]] w fun e w' => e = .returned (.tuple #[.int .u64 1, .int .u64 A]) ∧ Below w.heap.size w w' := by
 have S1 := Lib.hid S1
 have S2 := Lib.hid S2
 have Cn := Lib.hid Cn
 go_enter Try.func116, Try.ntmps116
 go_wp2_with fail
 have KI : Keeps (w.heap.size) [(w.heap.size, 0, .int .i64 c), (w.heap.size, 1, .int .i64 d)] [] w (w.alloc (.cells #[.int .i64 c, .int .i64 d] 23)) := by
   refine ⟨?_, ?_, ?_, ?_, by simp; try omega, (Below.refl _ _).alloc (Nat.le_refl _) _⟩
   · simp only [fm, nm, false_imp_iff, implies_true, and_true]
     exact ⟨by go_simp, by go_simp⟩
   · simp
   · simp
   · simp
 have ID := KI.later (Below.refl _ _).drew
 clear KI
 generalize (w.alloc (.cells #[.int .i64 c, .int .i64 d] 23)) = W at *
 refine wp_region_held_drew (S := fun w' => w'.cell? ⟨w.heap.size, 0, none⟩ = some (.int .i64 c) ∧ w'.cell? ⟨w.heap.size, 1, none⟩ = some (.int .i64 d) ∧ Keeps (w.heap.size) [(w.heap.size, 0, .int .i64 c), (w.heap.size, 1, .int .i64 d)] [] w w') (by kernel_rfl) ⟨(ID).fixed (w.heap.size, 0, .int .i64 c) (by simp), (ID).fixed (w.heap.size, 1, .int .i64 d) (by simp), ID⟩ (fun hHeld => ?_)
 refine tk (i := 0) (v := ?_) rfl (by kernel_rfl) (by kernel_rfl) (by kernel_rfl) (fun _ _ _ h => h) (Or.inl ⟨by rfl, ?_⟩) (by assumption) ?_
 rotate_left
 focus (intro w' hSw; (try dsimp only at hSw); go_simp; try with_reducible rfl)
 try simp only [Act.put, p1, p2, p3, p4, p5, p6]
 refine tk (i := 1) (v := ?_) rfl (by kernel_rfl) (by kernel_rfl) (by kernel_rfl) (fun _ _ _ h => h) (Or.inl ⟨by rfl, ?_⟩) (by assumption) ?_
 rotate_left
 focus (intro w' hSw; (try dsimp only at hSw); go_simp; try with_reducible rfl)
 try simp only [Act.put, p1, p2, p3, p4, p5, p6]
 refine tk (i := 3) (v := ?_) rfl (by kernel_rfl) (by kernel_rfl) (by kernel_rfl) (fun _ _ _ h => h) (Or.inl ⟨by rfl, ?_⟩) (by assumption) ?_
 rotate_left
 focus (intro w' hSw; (try dsimp only at hSw); go_simp; try with_reducible rfl)
 try simp only [Act.put, p1, p2, p3, p4, p5, p6]
 refine tk (i := 4) (v := ?_) rfl (by kernel_rfl) (by kernel_rfl) (by kernel_rfl) (fun _ _ _ h => h) (Or.inl ⟨by rfl, ?_⟩) (by assumption) ?_
 rotate_left
 focus (intro w' hSw; (try dsimp only at hSw); go_simp; try with_reducible rfl)
 try simp only [Act.put, p1, p2, p3, p4, p5, p6]
 refine tk (i := 7) (v := ?_) rfl (by kernel_rfl) (by kernel_rfl) (by kernel_rfl) (fun _ _ _ h => h) (Or.inl ⟨by rfl, ?_⟩) (by assumption) ?_
 rotate_left
 focus (intro w' hSw; (try dsimp only at hSw); go_simp; try with_reducible rfl)
 try simp only [Act.put, p1, p2, p3, p4, p5, p6]
 refine tk (i := 8) (v := ?_) rfl (by kernel_rfl) (by kernel_rfl) (by kernel_rfl) (fun _ _ _ h => h) (Or.inl ⟨by rfl, ?_⟩) (by assumption) ?_
 rotate_left
 focus (intro w' hSw; (try dsimp only at hSw); go_simp; try with_reducible rfl)
 try simp only [Act.put, p1, p2, p3, p4, p5, p6]
 refine tk (i := 10) (v := ?_) rfl (by kernel_rfl) (by kernel_rfl) (by kernel_rfl) (fun _ _ _ h => h) (Or.inl ⟨by rfl, ?_⟩) (by assumption) ?_
 rotate_left
 focus (intro w' hSw; (try dsimp only at hSw); go_simp; try with_reducible rfl)
 try simp only [Act.put, p1, p2, p3, p4, p5, p6]
 refine tk (i := 11) (v := ?_) rfl (by kernel_rfl) (by kernel_rfl) (by kernel_rfl) (fun _ _ _ h => h) (Or.inl ⟨by rfl, ?_⟩) (by assumption) ?_
 rotate_left
 focus (intro w' hSw; (try dsimp only at hSw); go_simp; try with_reducible rfl)
 try simp only [Act.put, p1, p2, p3, p4, p5, p6]
 refine rd (rs := [2]) (by kernel_rfl) (by simp) ?_
 refine AllReadyH.cons rfl (fun K hK => ?_) AllReadyH.nil
 go_simp
 go_at_call 117
 refine ((S1.out _).out).mono ?_
 rintro eq1 wq1 ⟨rfl, rfl⟩
 go_wp2_with fail
 refine hK.out _ _ ⟨(ID).fixed (w.heap.size, 0, .int .i64 c) (by simp), (ID).fixed (w.heap.size, 1, .int .i64 d) (by simp), ID⟩ (fun hHeld => ?_)
 clear hK K
 try simp only [Act.put, p1, p2, p3, p4, p5, p6]
 refine rd (rs := [5]) (by kernel_rfl) (by simp) ?_
 refine AllReadyH.cons rfl (fun K hK => ?_) AllReadyH.nil
 go_simp
 go_at_call 117
 refine ((S2.out _).out).mono ?_
 rintro eq2 wq2 ⟨rfl, rfl⟩
 go_wp2_with fail
 refine hK.out _ _ ⟨(ID).fixed (w.heap.size, 0, .int .i64 c) (by simp), (ID).fixed (w.heap.size, 1, .int .i64 d) (by simp), ID⟩ (fun hHeld => ?_)
 clear hK K
 try simp only [Act.put, p1, p2, p3, p4, p5, p6]
 refine tk (i := 6) (v := ?_) rfl (by kernel_rfl) (by kernel_rfl) (by kernel_rfl) (fun _ _ _ h => h) (Or.inl ⟨by rfl, ?_⟩) (by assumption) ?_
 rotate_left
 focus (intro w' hSw; (try dsimp only at hSw); go_simp; try with_reducible rfl)
 try simp only [Act.put, p1, p2, p3, p4, p5, p6]
 refine rd (rs := [9]) (by kernel_rfl) (by simp) ?_
 refine AllReadyH.cons rfl (fun K hK => ?_) AllReadyH.nil
 go_simp
 go_at_call 117
 refine ((S1.out _).out).mono ?_
 rintro eq3 wq3 ⟨rfl, rfl⟩
 go_wp2_with fail
 refine hK.out _ _ ⟨(ID).fixed (w.heap.size, 0, .int .i64 c) (by simp), (ID).fixed (w.heap.size, 1, .int .i64 d) (by simp), ID⟩ (fun hHeld => ?_)
 clear hK K
 try simp only [Act.put, p1, p2, p3, p4, p5, p6]
 refine rd (rs := [12]) (by kernel_rfl) (by simp) ?_
 refine AllReadyH.cons rfl (fun K hK => ?_) AllReadyH.nil
 go_simp
 go_at_call 117
 refine ((S2.out _).out).mono ?_
 rintro eq4 wq4 ⟨rfl, rfl⟩
 go_wp2_with fail
 refine hK.out _ _ ⟨(ID).fixed (w.heap.size, 0, .int .i64 c) (by simp), (ID).fixed (w.heap.size, 1, .int .i64 d) (by simp), ID⟩ (fun hHeld => ?_)
 clear hK K
 try simp only [Act.put, p1, p2, p3, p4, p5, p6]
 refine tk (i := 13) (v := ?_) rfl (by kernel_rfl) (by kernel_rfl) (by kernel_rfl) (fun _ _ _ h => h) (Or.inl ⟨by rfl, ?_⟩) (by assumption) ?_
 rotate_left
 focus (intro w' hSw; (try dsimp only at hSw); go_simp; try with_reducible rfl)
 try simp only [Act.put, p1, p2, p3, p4, p5, p6]
 refine tk (i := 14) (v := ?_) rfl (by kernel_rfl) (by kernel_rfl) (by kernel_rfl) (fun _ _ _ h => h) (Or.inl ⟨by rfl, ?_⟩) (by assumption) ?_
 rotate_left
 focus (intro w' hSw; (try dsimp only at hSw); go_simp; try with_reducible rfl)
 try simp only [Act.put, p1, p2, p3, p4, p5, p6]
 refine tk (i := 15) (v := ?_) rfl (by kernel_rfl) (by kernel_rfl) (by kernel_rfl) (fun _ _ _ h => h) (Or.inl ⟨by rfl, ?_⟩) (by assumption) ?_
 rotate_left
 focus (intro w' hSw; (try dsimp only at hSw); go_simp; try with_reducible rfl)
 try simp only [Act.put, p1, p2, p3, p4, p5, p6]
 refine wpAnyH_done (by kernel_rfl) ?_ _
 have k0 : W.drew.cell? ⟨w.heap.size, 0, none⟩ = some (.int .i64 c) := ID.fixed (w.heap.size, 0, .int .i64 c) (by simp)
 have k1 : W.drew.cell? ⟨w.heap.size, 1, none⟩ = some (.int .i64 d) := ID.fixed (w.heap.size, 1, .int .i64 d) (by simp)
 clear hHeld
 generalize W.drew = V at *
 go_wp2_with (go_at_call 115; refine (Cn.out _).out.mono ?_; rintro e w' ⟨rfl, hB⟩)
 go_ret2
 exact ⟨rfl, (ID.later hB).bl⟩
theorem psizes_eq_false (c d A D : Int) (w : World) (S1 : SizeOf c A) (S2 : SizeOf d A) (Cn : Has c d 0 false) :
   Calls Try.prog 116 #[.agg #[.int .i64 c, .int .i64 d]] w fun e w' => e = .returned (.tuple #[.int .u64 A, .int .u64 A]) ∧ Below w.heap.size w w' := by
 have S1 := Lib.hid S1
 have S2 := Lib.hid S2
 have Cn := Lib.hid Cn
 go_enter Try.func116, Try.ntmps116
 go_wp2_with fail
 have KI : Keeps (w.heap.size) [(w.heap.size, 0, .int .i64 c), (w.heap.size, 1, .int .i64 d)] [] w (w.alloc (.cells #[.int .i64 c, .int .i64 d] 23)) := by
   refine ⟨?_, ?_, ?_, ?_, by simp; try omega, (Below.refl _ _).alloc (Nat.le_refl _) _⟩
   · simp only [fm, nm, false_imp_iff, implies_true, and_true]
     exact ⟨by go_simp, by go_simp⟩
   · simp
   · simp
   · simp
 have ID := KI.later (Below.refl _ _).drew
 clear KI
 generalize (w.alloc (.cells #[.int .i64 c, .int .i64 d] 23)) = W at *
 refine wp_region_held_drew (S := fun w' => w'.cell? ⟨w.heap.size, 0, none⟩ = some (.int .i64 c) ∧ w'.cell? ⟨w.heap.size, 1, none⟩ = some (.int .i64 d) ∧ Keeps (w.heap.size) [(w.heap.size, 0, .int .i64 c), (w.heap.size, 1, .int .i64 d)] [] w w') (by kernel_rfl) ⟨(ID).fixed (w.heap.size, 0, .int .i64 c) (by simp), (ID).fixed (w.heap.size, 1, .int .i64 d) (by simp), ID⟩ (fun hHeld => ?_)
 refine tk (i := 0) (v := ?_) rfl (by kernel_rfl) (by kernel_rfl) (by kernel_rfl) (fun _ _ _ h => h) (Or.inl ⟨by rfl, ?_⟩) (by assumption) ?_
 rotate_left
 focus (intro w' hSw; (try dsimp only at hSw); go_simp; try with_reducible rfl)
 try simp only [Act.put, p1, p2, p3, p4, p5, p6]
 refine tk (i := 1) (v := ?_) rfl (by kernel_rfl) (by kernel_rfl) (by kernel_rfl) (fun _ _ _ h => h) (Or.inl ⟨by rfl, ?_⟩) (by assumption) ?_
 rotate_left
 focus (intro w' hSw; (try dsimp only at hSw); go_simp; try with_reducible rfl)
 try simp only [Act.put, p1, p2, p3, p4, p5, p6]
 refine tk (i := 3) (v := ?_) rfl (by kernel_rfl) (by kernel_rfl) (by kernel_rfl) (fun _ _ _ h => h) (Or.inl ⟨by rfl, ?_⟩) (by assumption) ?_
 rotate_left
 focus (intro w' hSw; (try dsimp only at hSw); go_simp; try with_reducible rfl)
 try simp only [Act.put, p1, p2, p3, p4, p5, p6]
 refine tk (i := 4) (v := ?_) rfl (by kernel_rfl) (by kernel_rfl) (by kernel_rfl) (fun _ _ _ h => h) (Or.inl ⟨by rfl, ?_⟩) (by assumption) ?_
 rotate_left
 focus (intro w' hSw; (try dsimp only at hSw); go_simp; try with_reducible rfl)
 try simp only [Act.put, p1, p2, p3, p4, p5, p6]
 refine tk (i := 7) (v := ?_) rfl (by kernel_rfl) (by kernel_rfl) (by kernel_rfl) (fun _ _ _ h => h) (Or.inl ⟨by rfl, ?_⟩) (by assumption) ?_
 rotate_left
 focus (intro w' hSw; (try dsimp only at hSw); go_simp; try with_reducible rfl)
 try simp only [Act.put, p1, p2, p3, p4, p5, p6]
 refine tk (i := 8) (v := ?_) rfl (by kernel_rfl) (by kernel_rfl) (by kernel_rfl) (fun _ _ _ h => h) (Or.inl ⟨by rfl, ?_⟩) (by assumption) ?_
 rotate_left
 focus (intro w' hSw; (try dsimp only at hSw); go_simp; try with_reducible rfl)
 try simp only [Act.put, p1, p2, p3, p4, p5, p6]
 refine tk (i := 10) (v := ?_) rfl (by kernel_rfl) (by kernel_rfl) (by kernel_rfl) (fun _ _ _ h => h) (Or.inl ⟨by rfl, ?_⟩) (by assumption) ?_
 rotate_left
 focus (intro w' hSw; (try dsimp only at hSw); go_simp; try with_reducible rfl)
 try simp only [Act.put, p1, p2, p3, p4, p5, p6]
 refine tk (i := 11) (v := ?_) rfl (by kernel_rfl) (by kernel_rfl) (by kernel_rfl) (fun _ _ _ h => h) (Or.inl ⟨by rfl, ?_⟩) (by assumption) ?_
 rotate_left
 focus (intro w' hSw; (try dsimp only at hSw); go_simp; try with_reducible rfl)
 try simp only [Act.put, p1, p2, p3, p4, p5, p6]
 refine rd (rs := [2]) (by kernel_rfl) (by simp) ?_
 refine AllReadyH.cons rfl (fun K hK => ?_) AllReadyH.nil
 go_simp
 go_at_call 117
 refine ((S1.out _).out).mono ?_
 rintro eq1 wq1 ⟨rfl, rfl⟩
 go_wp2_with fail
 refine hK.out _ _ ⟨(ID).fixed (w.heap.size, 0, .int .i64 c) (by simp), (ID).fixed (w.heap.size, 1, .int .i64 d) (by simp), ID⟩ (fun hHeld => ?_)
 clear hK K
 try simp only [Act.put, p1, p2, p3, p4, p5, p6]
 refine rd (rs := [5]) (by kernel_rfl) (by simp) ?_
 refine AllReadyH.cons rfl (fun K hK => ?_) AllReadyH.nil
 go_simp
 go_at_call 117
 refine ((S2.out _).out).mono ?_
 rintro eq2 wq2 ⟨rfl, rfl⟩
 go_wp2_with fail
 refine hK.out _ _ ⟨(ID).fixed (w.heap.size, 0, .int .i64 c) (by simp), (ID).fixed (w.heap.size, 1, .int .i64 d) (by simp), ID⟩ (fun hHeld => ?_)
 clear hK K
 try simp only [Act.put, p1, p2, p3, p4, p5, p6]
 refine tk (i := 6) (v := ?_) rfl (by kernel_rfl) (by kernel_rfl) (by kernel_rfl) (fun _ _ _ h => h) (Or.inl ⟨by rfl, ?_⟩) (by assumption) ?_
 rotate_left
 focus (intro w' hSw; (try dsimp only at hSw); go_simp; try with_reducible rfl)
 try simp only [Act.put, p1, p2, p3, p4, p5, p6]
 refine rd (rs := [9]) (by kernel_rfl) (by simp) ?_
 refine AllReadyH.cons rfl (fun K hK => ?_) AllReadyH.nil
 go_simp
 go_at_call 117
 refine ((S1.out _).out).mono ?_
 rintro eq3 wq3 ⟨rfl, rfl⟩
 go_wp2_with fail
 refine hK.out _ _ ⟨(ID).fixed (w.heap.size, 0, .int .i64 c) (by simp), (ID).fixed (w.heap.size, 1, .int .i64 d) (by simp), ID⟩ (fun hHeld => ?_)
 clear hK K
 try simp only [Act.put, p1, p2, p3, p4, p5, p6]
 refine rd (rs := [12]) (by kernel_rfl) (by simp) ?_
 refine AllReadyH.cons rfl (fun K hK => ?_) AllReadyH.nil
 go_simp
 go_at_call 117
 refine ((S2.out _).out).mono ?_
 rintro eq4 wq4 ⟨rfl, rfl⟩
 go_wp2_with fail
 refine hK.out _ _ ⟨(ID).fixed (w.heap.size, 0, .int .i64 c) (by simp), (ID).fixed (w.heap.size, 1, .int .i64 d) (by simp), ID⟩ (fun hHeld => ?_)
 clear hK K
 try simp only [Act.put, p1, p2, p3, p4, p5, p6]
 refine tk (i := 13) (v := ?_) rfl (by kernel_rfl) (by kernel_rfl) (by kernel_rfl) (fun _ _ _ h => h) (Or.inl ⟨by rfl, ?_⟩) (by assumption) ?_
 rotate_left
 focus (intro w' hSw; (try dsimp only at hSw); go_simp; try with_reducible rfl)
 try simp only [Act.put, p1, p2, p3, p4, p5, p6]
 refine tk (i := 14) (v := ?_) rfl (by kernel_rfl) (by kernel_rfl) (by kernel_rfl) (fun _ _ _ h => h) (Or.inl ⟨by rfl, ?_⟩) (by assumption) ?_
 rotate_left
 focus (intro w' hSw; (try dsimp only at hSw); go_simp; try with_reducible rfl)
 try simp only [Act.put, p1, p2, p3, p4, p5, p6]
 refine tk (i := 15) (v := ?_) rfl (by kernel_rfl) (by kernel_rfl) (by kernel_rfl) (fun _ _ _ h => h) (Or.inl ⟨by rfl, ?_⟩) (by assumption) ?_
 rotate_left
 focus (intro w' hSw; (try dsimp only at hSw); go_simp; try with_reducible rfl)
 try simp only [Act.put, p1, p2, p3, p4, p5, p6]
 refine wpAnyH_done (by kernel_rfl) ?_ _
 have k0 : W.drew.cell? ⟨w.heap.size, 0, none⟩ = some (.int .i64 c) := ID.fixed (w.heap.size, 0, .int .i64 c) (by simp)
 have k1 : W.drew.cell? ⟨w.heap.size, 1, none⟩ = some (.int .i64 d) := ID.fixed (w.heap.size, 1, .int .i64 d) (by simp)
 clear hHeld
 generalize W.drew = V at *
 go_wp2_with (go_at_call 115; refine (Cn.out _).out.mono ?_; rintro e w' ⟨rfl, hB⟩)
 go_ret2
 exact ⟨rfl, (ID.later hB).bl⟩
end Go.Proofs.Ytgkhldbnljdeiaa
