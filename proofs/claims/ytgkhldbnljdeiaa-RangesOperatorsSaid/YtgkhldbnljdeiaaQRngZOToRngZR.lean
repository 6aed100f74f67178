/- RngZO, RngZP, RngZQ, RngZR. -/
import Derived.Test.YtgkhldbnljdeiaaQRngZN
set_option maxRecDepth 100000
set_option maxHeartbeats 4000000
set_option linter.unusedSimpArgs false
set_option linter.unusedVariables false
namespace Go.Proofs.Ytgkhldbnljdeiaa
open Go.RowKit RangesMath Go.MapKept
attribute [local go_sem] World.setCell_self
theorem pshifted_1d (f : Nat) (a b c d : Int) (w : World) (C : Com c d 0 63 0 0 false) (hm : ((0 : Int) == c) = false) :
   Calls Try.prog 102 #[.int .i64 1, .func (.func f) #[] #[], .agg #[.int .i64 a, .int .i64 b], .agg #[.int .i64 c, .int .i64 d]] w fun e w' => e = .returned (EffV 0 0 false false true) ∧ Below w.heap.size w w' := by
 go_enter Try.func102, Try.ntmps102
 go_wp2_with fail
 refine (C _).out.mono ?_
 rintro e w1 ⟨rfl, hB⟩
 have z0 : w.heap.size < w1.heap.size := by have := hB.size; simp at this; omega
 have z1 : w.heap.size + 1 < w1.heap.size := by have := hB.size; simp at this; omega
 have z2 : w.heap.size + 1 + 1 < w1.heap.size := by have := hB.size; simp at this; omega
 have a0 : w1.cell? ⟨w.heap.size, 0, none⟩ = some (.int .i64 a) := cell_later hB (by go_simp)
 have a1 : w1.cell? ⟨w.heap.size, 1, none⟩ = some (.int .i64 b) := cell_later hB (by go_simp)
 have c0 : w1.cell? ⟨w.heap.size + 1, 0, none⟩ = some (.int .i64 c) := cell_later hB (by go_simp)
 have c1 : w1.cell? ⟨w.heap.size + 1, 1, none⟩ = some (.int .i64 d) := cell_later hB (by go_simp)
 have r0 : w1.cell? ⟨w.heap.size + 1 + 1, 0, none⟩ = some (.int .i64 0) := cell_later hB (by go_simp)
 have r1 : w1.cell? ⟨w.heap.size + 1 + 1, 1, none⟩ = some (.int .i64 0) := cell_later hB (by go_simp)
 have r2 : w1.cell? ⟨w.heap.size + 1 + 1, 2, none⟩ = some (.bool false) := cell_later hB (by go_simp)
 have r3 : w1.cell? ⟨w.heap.size + 1 + 1, 3, none⟩ = some (.bool false) := cell_later hB (by go_simp)
 have r4 : w1.cell? ⟨w.heap.size + 1 + 1, 4, none⟩ = some (.bool false) := cell_later hB (by go_simp)
 have f0 : w1.frozen? ⟨w.heap.size + 1 + 1, 0, none⟩ = false := keepFr hB (by simp; try omega) (by go_simp)
 have f1 : w1.frozen? ⟨w.heap.size + 1 + 1, 1, none⟩ = false := keepFr hB (by simp; try omega) (by go_simp)
 have f2 : w1.frozen? ⟨w.heap.size + 1 + 1, 2, none⟩ = false := keepFr hB (by simp; try omega) (by go_simp)
 have f3 : w1.frozen? ⟨w.heap.size + 1 + 1, 3, none⟩ = false := keepFr hB (by simp; try omega) (by go_simp)
 have f4 : w1.frozen? ⟨w.heap.size + 1 + 1, 4, none⟩ = false := keepFr hB (by simp; try omega) (by go_simp)
 have bl : Below w.heap.size w w1 := (((((Below.refl _ _).alloc (Nat.le_refl _) _).alloc (by simp) _).alloc (by simp; omega) _).alloc (by simp; omega) _).trans (hB.mono (by simp; omega))
 clear hB
 have t0 : ∀ o1 o2, (((w1.setCell ⟨w.heap.size + 1 + 1, 4, none⟩ (.bool true)).alloc o1).alloc o2).cell? ⟨w.heap.size + 1 + 1, 0, none⟩ = some (.int .i64 0) := by
   intro o1 o2
   rw [World.cell?_alloc_lt _ _ _ (by simp [World.setCell]; omega), World.cell?_alloc_lt _ _ _ (by simp [World.setCell]; omega)]
   go_simp
 have t1 : ∀ o1 o2, (((w1.setCell ⟨w.heap.size + 1 + 1, 4, none⟩ (.bool true)).alloc o1).alloc o2).cell? ⟨w.heap.size + 1 + 1, 1, none⟩ = some (.int .i64 0) := by
   intro o1 o2
   rw [World.cell?_alloc_lt _ _ _ (by simp [World.setCell]; omega), World.cell?_alloc_lt _ _ _ (by simp [World.setCell]; omega)]
   go_simp
 have t2 : ∀ o1 o2, (((w1.setCell ⟨w.heap.size + 1 + 1, 4, none⟩ (.bool true)).alloc o1).alloc o2).cell? ⟨w.heap.size + 1 + 1, 2, none⟩ = some (.bool false) := by
   intro o1 o2
   rw [World.cell?_alloc_lt _ _ _ (by simp [World.setCell]; omega), World.cell?_alloc_lt _ _ _ (by simp [World.setCell]; omega)]
   go_simp
 have t3 : ∀ o1 o2, (((w1.setCell ⟨w.heap.size + 1 + 1, 4, none⟩ (.bool true)).alloc o1).alloc o2).cell? ⟨w.heap.size + 1 + 1, 3, none⟩ = some (.bool false) := by
   intro o1 o2
   rw [World.cell?_alloc_lt _ _ _ (by simp [World.setCell]; omega), World.cell?_alloc_lt _ _ _ (by simp [World.setCell]; omega)]
   go_simp
 have t4 : ∀ o1 o2, (((w1.setCell ⟨w.heap.size + 1 + 1, 4, none⟩ (.bool true)).alloc o1).alloc o2).cell? ⟨w.heap.size + 1 + 1, 4, none⟩ = some (.bool true) := by
   intro o1 o2
   rw [World.cell?_alloc_lt _ _ _ (by simp [World.setCell]; omega), World.cell?_alloc_lt _ _ _ (by simp [World.setCell]; omega)]
   go_simp
 go_wp2
 have T0 := t0 (.cells #[.int .i64 0, .int .i64 0] 23) (.cells #[.int .i64 0, .int .i64 0, .bool false, .bool false, .bool true] 37)
 have T1 := t1 (.cells #[.int .i64 0, .int .i64 0] 23) (.cells #[.int .i64 0, .int .i64 0, .bool false, .bool false, .bool true] 37)
 have T2 := t2 (.cells #[.int .i64 0, .int .i64 0] 23) (.cells #[.int .i64 0, .int .i64 0, .bool false, .bool false, .bool true] 37)
 have T3 := t3 (.cells #[.int .i64 0, .int .i64 0] 23) (.cells #[.int .i64 0, .int .i64 0, .bool false, .bool false, .bool true] 37)
 have T4 := t4 (.cells #[.int .i64 0, .int .i64 0] 23) (.cells #[.int .i64 0, .int .i64 0, .bool false, .bool false, .bool true] 37)
 have BL : Below w.heap.size w (((w1.setCell ⟨w.heap.size + 1 + 1, 4, none⟩ (.bool true)).alloc (.cells #[.int .i64 0, .int .i64 0] 23)).alloc (.cells #[.int .i64 0, .int .i64 0, .bool false, .bool false, .bool true] 37)) := ((bl.setCell (by simp; try omega) _).alloc (by simp; omega) _).alloc (by simp; omega) _
 clear t0 t1 t2 t3 t4
 generalize ((w1.setCell ⟨w.heap.size + 1 + 1, 4, none⟩ (.bool true)).alloc (.cells #[.int .i64 0, .int .i64 0] 23)).alloc (.cells #[.int .i64 0, .int .i64 0, .bool false, .bool false, .bool true] 37) = W2 at *
 refine bodyPost_ret (v := EffV 0 0 false false true) (by simp [results, Try.results102, go_sem, EffV, T0, T1, T2, T3, T4]) rfl ⟨rfl, ?_⟩
 exact BL
theorem pshifted_1e (f : Nat) (a b d : Int) (w : World) (C : Com 0 d 0 63 0 0 false) (hn : ((0 : Int) == d) = false) :
   Calls Try.prog 102 #[.int .i64 1, .func (.func f) #[] #[], .agg #[.int .i64 a, .int .i64 b], .agg #[.int .i64 0, .int .i64 d]] w fun e w' => e = .returned (EffV 0 0 false false true) ∧ Below w.heap.size w w' := by
 go_enter Try.func102, Try.ntmps102
 go_wp2_with fail
 refine (C _).out.mono ?_
 rintro e w1 ⟨rfl, hB⟩
 have z0 : w.heap.size < w1.heap.size := by have := hB.size; simp at this; omega
 have z1 : w.heap.size + 1 < w1.heap.size := by have := hB.size; simp at this; omega
 have z2 : w.heap.size + 1 + 1 < w1.heap.size := by have := hB.size; simp at this; omega
 have a0 : w1.cell? ⟨w.heap.size, 0, none⟩ = some (.int .i64 a) := cell_later hB (by go_simp)
 have a1 : w1.cell? ⟨w.heap.size, 1, none⟩ = some (.int .i64 b) := cell_later hB (by go_simp)
 have c0 : w1.cell? ⟨w.heap.size + 1, 0, none⟩ = some (.int .i64 0) := cell_later hB (by go_simp)
 have c1 : w1.cell? ⟨w.heap.size + 1, 1, none⟩ = some (.int .i64 d) := cell_later hB (by go_simp)
 have r0 : w1.cell? ⟨w.heap.size + 1 + 1, 0, none⟩ = some (.int .i64 0) := cell_later hB (by go_simp)
 have r1 : w1.cell? ⟨w.heap.size + 1 + 1, 1, none⟩ = some (.int .i64 0) := cell_later hB (by go_simp)
 have r2 : w1.cell? ⟨w.heap.size + 1 + 1, 2, none⟩ = some (.bool false) := cell_later hB (by go_simp)
 have r3 : w1.cell? ⟨w.heap.size + 1 + 1, 3, none⟩ = some (.bool false) := cell_later hB (by go_simp)
 have r4 : w1.cell? ⟨w.heap.size + 1 + 1, 4, none⟩ = some (.bool false) := cell_later hB (by go_simp)
 have f0 : w1.frozen? ⟨w.heap.size + 1 + 1, 0, none⟩ = false := keepFr hB (by simp; try omega) (by go_simp)
 have f1 : w1.frozen? ⟨w.heap.size + 1 + 1, 1, none⟩ = false := keepFr hB (by simp; try omega) (by go_simp)
 have f2 : w1.frozen? ⟨w.heap.size + 1 + 1, 2, none⟩ = false := keepFr hB (by simp; try omega) (by go_simp)
 have f3 : w1.frozen? ⟨w.heap.size + 1 + 1, 3, none⟩ = false := keepFr hB (by simp; try omega) (by go_simp)
 have f4 : w1.frozen? ⟨w.heap.size + 1 + 1, 4, none⟩ = false := keepFr hB (by simp; try omega) (by go_simp)
 have bl : Below w.heap.size w w1 := (((((Below.refl _ _).alloc (Nat.le_refl _) _).alloc (by simp) _).alloc (by simp; omega) _).alloc (by simp; omega) _).trans (hB.mono (by simp; omega))
 clear hB
 have t0 : ∀ o1 o2, (((w1.setCell ⟨w.heap.size + 1 + 1, 4, none⟩ (.bool true)).alloc o1).alloc o2).cell? ⟨w.heap.size + 1 + 1, 0, none⟩ = some (.int .i64 0) := by
   intro o1 o2
   rw [World.cell?_alloc_lt _ _ _ (by simp [World.setCell]; omega), World.cell?_alloc_lt _ _ _ (by simp [World.setCell]; omega)]
   go_simp
 have t1 : ∀ o1 o2, (((w1.setCell ⟨w.heap.size + 1 + 1, 4, none⟩ (.bool true)).alloc o1).alloc o2).cell? ⟨w.heap.size + 1 + 1, 1, none⟩ = some (.int .i64 0) := by
   intro o1 o2
   rw [World.cell?_alloc_lt _ _ _ (by simp [World.setCell]; omega), World.cell?_alloc_lt _ _ _ (by simp [World.setCell]; omega)]
   go_simp
 have t2 : ∀ o1 o2, (((w1.setCell ⟨w.heap.size + 1 + 1, 4, none⟩ (.bool true)).alloc o1).alloc o2).cell? ⟨w.heap.size + 1 + 1, 2, none⟩ = some (.bool false) := by
   intro o1 o2
   rw [World.cell?_alloc_lt _ _ _ (by simp [World.setCell]; omega), World.cell?_alloc_lt _ _ _ (by simp [World.setCell]; omega)]
   go_simp
 have t3 : ∀ o1 o2, (((w1.setCell ⟨w.heap.size + 1 + 1, 4, none⟩ (.bool true)).alloc o1).alloc o2).cell? ⟨w.heap.size + 1 + 1, 3, none⟩ = some (.bool false) := by
   intro o1 o2
   rw [World.cell?_alloc_lt _ _ _ (by simp [World.setCell]; omega), World.cell?_alloc_lt _ _ _ (by simp [World.setCell]; omega)]
   go_simp
 have t4 : ∀ o1 o2, (((w1.setCell ⟨w.heap.size + 1 + 1, 4, none⟩ (.bool true)).alloc o1).alloc o2).cell? ⟨w.heap.size + 1 + 1, 4, none⟩ = some (.bool true) := by
   intro o1 o2
   rw [World.cell?_alloc_lt _ _ _ (by simp [World.setCell]; omega), World.cell?_alloc_lt _ _ _ (by simp [World.setCell]; omega)]
   go_simp
 go_wp2
 have T0 := t0 (.cells #[.int .i64 0, .int .i64 0] 23) (.cells #[.int .i64 0, .int .i64 0, .bool false, .bool false, .bool true] 37)
 have T1 := t1 (.cells #[.int .i64 0, .int .i64 0] 23) (.cells #[.int .i64 0, .int .i64 0, .bool false, .bool false, .bool true] 37)
 have T2 := t2 (.cells #[.int .i64 0, .int .i64 0] 23) (.cells #[.int .i64 0, .int .i64 0, .bool false, .bool false, .bool true] 37)
 have T3 := t3 (.cells #[.int .i64 0, .int .i64 0] 23) (.cells #[.int .i64 0, .int .i64 0, .bool false, .bool false, .bool true] 37)
 have T4 := t4 (.cells #[.int .i64 0, .int .i64 0] 23) (.cells #[.int .i64 0, .int .i64 0, .bool false, .bool false, .bool true] 37)
 have BL : Below w.heap.size w (((w1.setCell ⟨w.heap.size + 1 + 1, 4, none⟩ (.bool true)).alloc (.cells #[.int .i64 0, .int .i64 0] 23)).alloc (.cells #[.int .i64 0, .int .i64 0, .bool false, .bool false, .bool true] 37)) := ((bl.setCell (by simp; try omega) _).alloc (by simp; omega) _).alloc (by simp; omega) _
 clear t0 t1 t2 t3 t4
 generalize ((w1.setCell ⟨w.heap.size + 1 + 1, 4, none⟩ (.bool true)).alloc (.cells #[.int .i64 0, .int .i64 0] 23)).alloc (.cells #[.int .i64 0, .int .i64 0, .bool false, .bool false, .bool true] 37) = W2 at *
 refine bodyPost_ret (v := EffV 0 0 false false true) (by simp [results, Try.results102, go_sem, EffV, T0, T1, T2, T3, T4]) rfl ⟨rfl, ?_⟩
 exact BL
theorem pshifted_2d (f : Nat) (a b c d : Int) (w : World) (C : Com c d 0 7 0 0 false) (hm : ((0 : Int) == c) = false) :
   Calls Try.prog 102 #[.int .i64 2, .func (.func f) #[] #[], .agg #[.int .i64 a, .int .i64 b], .agg #[.int .i64 c, .int .i64 d]] w fun e w' => e = .returned (EffV 0 0 false false true) ∧ Below w.heap.size w w' := by
 go_enter Try.func102, Try.ntmps102
 go_wp2_with fail
 refine (C _).out.mono ?_
 rintro e w1 ⟨rfl, hB⟩
 have z0 : w.heap.size < w1.heap.size := by have := hB.size; simp at this; omega
 have z1 : w.heap.size + 1 < w1.heap.size := by have := hB.size; simp at this; omega
 have z2 : w.heap.size + 1 + 1 < w1.heap.size := by have := hB.size; simp at this; omega
 have a0 : w1.cell? ⟨w.heap.size, 0, none⟩ = some (.int .i64 a) := cell_later hB (by go_simp)
 have a1 : w1.cell? ⟨w.heap.size, 1, none⟩ = some (.int .i64 b) := cell_later hB (by go_simp)
 have c0 : w1.cell? ⟨w.heap.size + 1, 0, none⟩ = some (.int .i64 c) := cell_later hB (by go_simp)
 have c1 : w1.cell? ⟨w.heap.size + 1, 1, none⟩ = some (.int .i64 d) := cell_later hB (by go_simp)
 have r0 : w1.cell? ⟨w.heap.size + 1 + 1, 0, none⟩ = some (.int .i64 0) := cell_later hB (by go_simp)
 have r1 : w1.cell? ⟨w.heap.size + 1 + 1, 1, none⟩ = some (.int .i64 0) := cell_later hB (by go_simp)
 have r2 : w1.cell? ⟨w.heap.size + 1 + 1, 2, none⟩ = some (.bool false) := cell_later hB (by go_simp)
 have r3 : w1.cell? ⟨w.heap.size + 1 + 1, 3, none⟩ = some (.bool false) := cell_later hB (by go_simp)
 have r4 : w1.cell? ⟨w.heap.size + 1 + 1, 4, none⟩ = some (.bool false) := cell_later hB (by go_simp)
 have f0 : w1.frozen? ⟨w.heap.size + 1 + 1, 0, none⟩ = false := keepFr hB (by simp; try omega) (by go_simp)
 have f1 : w1.frozen? ⟨w.heap.size + 1 + 1, 1, none⟩ = false := keepFr hB (by simp; try omega) (by go_simp)
 have f2 : w1.frozen? ⟨w.heap.size + 1 + 1, 2, none⟩ = false := keepFr hB (by simp; try omega) (by go_simp)
 have f3 : w1.frozen? ⟨w.heap.size + 1 + 1, 3, none⟩ = false := keepFr hB (by simp; try omega) (by go_simp)
 have f4 : w1.frozen? ⟨w.heap.size + 1 + 1, 4, none⟩ = false := keepFr hB (by simp; try omega) (by go_simp)
 have bl : Below w.heap.size w w1 := (((((Below.refl _ _).alloc (Nat.le_refl _) _).alloc (by simp) _).alloc (by simp; omega) _).alloc (by simp; omega) _).trans (hB.mono (by simp; omega))
 clear hB
 have t0 : ∀ o1 o2, (((w1.setCell ⟨w.heap.size + 1 + 1, 4, none⟩ (.bool true)).alloc o1).alloc o2).cell? ⟨w.heap.size + 1 + 1, 0, none⟩ = some (.int .i64 0) := by
   intro o1 o2
   rw [World.cell?_alloc_lt _ _ _ (by simp [World.setCell]; omega), World.cell?_alloc_lt _ _ _ (by simp [World.setCell]; omega)]
   go_simp
 have t1 : ∀ o1 o2, (((w1.setCell ⟨w.heap.size + 1 + 1, 4, none⟩ (.bool true)).alloc o1).alloc o2).cell? ⟨w.heap.size + 1 + 1, 1, none⟩ = some (.int .i64 0) := by
   intro o1 o2
   rw [World.cell?_alloc_lt _ _ _ (by simp [World.setCell]; omega), World.cell?_alloc_lt _ _ _ (by simp [World.setCell]; omega)]
   go_simp
 have t2 : ∀ o1 o2, (((w1.setCell ⟨w.heap.size + 1 + 1, 4, none⟩ (.bool true)).alloc o1).alloc o2).cell? ⟨w.heap.size + 1 + 1, 2, none⟩ = some (.bool false) := by
   intro o1 o2
   rw [World.cell?_alloc_lt _ _ _ (by simp [World.setCell]; omega), World.cell?_alloc_lt _ _ _ (by simp [World.setCell]; omega)]
   go_simp
 have t3 : ∀ o1 o2, (((w1.setCell ⟨w.heap.size + 1 + 1, 4, none⟩ (.bool true)).alloc o1).alloc o2).cell? ⟨w.heap.size + 1 + 1, 3, none⟩ = some (.bool false) := by
   intro o1 o2
   rw [World.cell?_alloc_lt _ _ _ (by simp [World.setCell]; omega), World.cell?_alloc_lt _ _ _ (by simp [World.setCell]; omega)]
   go_simp
 have t4 : ∀ o1 o2, (((w1.setCell ⟨w.heap.size + 1 + 1, 4, none⟩ (.bool true)).alloc o1).alloc o2).cell? ⟨w.heap.size + 1 + 1, 4, none⟩ = some (.bool true) := by
   intro o1 o2
   rw [World.cell?_alloc_lt _ _ _ (by simp [World.setCell]; omega), World.cell?_alloc_lt _ _ _ (by simp [World.setCell]; omega)]
   go_simp
 go_wp2
 have T0 := t0 (.cells #[.int .i64 0, .int .i64 0] 23) (.cells #[.int .i64 0, .int .i64 0, .bool false, .bool false, .bool true] 37)
 have T1 := t1 (.cells #[.int .i64 0, .int .i64 0] 23) (.cells #[.int .i64 0, .int .i64 0, .bool false, .bool false, .bool true] 37)
 have T2 := t2 (.cells #[.int .i64 0, .int .i64 0] 23) (.cells #[.int .i64 0, .int .i64 0, .bool false, .bool false, .bool true] 37)
 have T3 := t3 (.cells #[.int .i64 0, .int .i64 0] 23) (.cells #[.int .i64 0, .int .i64 0, .bool false, .bool false, .bool true] 37)
 have T4 := t4 (.cells #[.int .i64 0, .int .i64 0] 23) (.cells #[.int .i64 0, .int .i64 0, .bool false, .bool false, .bool true] 37)
 have BL : Below w.heap.size w (((w1.setCell ⟨w.heap.size + 1 + 1, 4, none⟩ (.bool true)).alloc (.cells #[.int .i64 0, .int .i64 0] 23)).alloc (.cells #[.int .i64 0, .int .i64 0, .bool false, .bool false, .bool true] 37)) := ((bl.setCell (by simp; try omega) _).alloc (by simp; omega) _).alloc (by simp; omega) _
 clear t0 t1 t2 t3 t4
 generalize ((w1.setCell ⟨w.heap.size + 1 + 1, 4, none⟩ (.bool true)).alloc (.cells #[.int .i64 0, .int .i64 0] 23)).alloc (.cells #[.int .i64 0, .int .i64 0, .bool false, .bool false, .bool true] 37) = W2 at *
 refine bodyPost_ret (v := EffV 0 0 false false true) (by simp [results, Try.results102, go_sem, EffV, T0, T1, T2, T3, T4]) rfl ⟨rfl, ?_⟩
 exact BL
theorem pshifted_2e (f : Nat) (a b d : Int) (w : World) (C : Com 0 d 0 7 0 0 false) (hn : ((0 : Int) == d) = false) :
   Calls Try.prog 102 #[.int .i64 2, .func (.func f) #[] #[], .agg #[.int .i64 a, .int .i64 b], .agg #[.int .i64 0, .int .i64 d]] w fun e w' => e = .returned (EffV 0 0 false false true) ∧ Below w.heap.size w w' := by
 go_enter Try.func102, Try.ntmps102
 go_wp2_with fail
 refine (C _).out.mono ?_
 rintro e w1 ⟨rfl, hB⟩
 have z0 : w.heap.size < w1.heap.size := by have := hB.size; simp at this; omega
 have z1 : w.heap.size + 1 < w1.heap.size := by have := hB.size; simp at this; omega
 have z2 : w.heap.size + 1 + 1 < w1.heap.size := by have := hB.size; simp at this; omega
 have a0 : w1.cell? ⟨w.heap.size, 0, none⟩ = some (.int .i64 a) := cell_later hB (by go_simp)
 have a1 : w1.cell? ⟨w.heap.size, 1, none⟩ = some (.int .i64 b) := cell_later hB (by go_simp)
 have c0 : w1.cell? ⟨w.heap.size + 1, 0, none⟩ = some (.int .i64 0) := cell_later hB (by go_simp)
 have c1 : w1.cell? ⟨w.heap.size + 1, 1, none⟩ = some (.int .i64 d) := cell_later hB (by go_simp)
 have r0 : w1.cell? ⟨w.heap.size + 1 + 1, 0, none⟩ = some (.int .i64 0) := cell_later hB (by go_simp)
 have r1 : w1.cell? ⟨w.heap.size + 1 + 1, 1, none⟩ = some (.int .i64 0) := cell_later hB (by go_simp)
 have r2 : w1.cell? ⟨w.heap.size + 1 + 1, 2, none⟩ = some (.bool false) := cell_later hB (by go_simp)
 have r3 : w1.cell? ⟨w.heap.size + 1 + 1, 3, none⟩ = some (.bool false) := cell_later hB (by go_simp)
 have r4 : w1.cell? ⟨w.heap.size + 1 + 1, 4, none⟩ = some (.bool false) := cell_later hB (by go_simp)
 have f0 : w1.frozen? ⟨w.heap.size + 1 + 1, 0, none⟩ = false := keepFr hB (by simp; try omega) (by go_simp)
 have f1 : w1.frozen? ⟨w.heap.size + 1 + 1, 1, none⟩ = false := keepFr hB (by simp; try omega) (by go_simp)
 have f2 : w1.frozen? ⟨w.heap.size + 1 + 1, 2, none⟩ = false := keepFr hB (by simp; try omega) (by go_simp)
 have f3 : w1.frozen? ⟨w.heap.size + 1 + 1, 3, none⟩ = false := keepFr hB (by simp; try omega) (by go_simp)
 have f4 : w1.frozen? ⟨w.heap.size + 1 + 1, 4, none⟩ = false := keepFr hB (by simp; try omega) (by go_simp)
 have bl : Below w.heap.size w w1 := (((((Below.refl _ _).alloc (Nat.le_refl _) _).alloc (by simp) _).alloc (by simp; omega) _).alloc (by simp; omega) _).trans (hB.mono (by simp; omega))
 clear hB
 have t0 : ∀ o1 o2, (((w1.setCell ⟨w.heap.size + 1 + 1, 4, none⟩ (.bool true)).alloc o1).alloc o2).cell? ⟨w.heap.size + 1 + 1, 0, none⟩ = some (.int .i64 0) := by
   intro o1 o2
   rw [World.cell?_alloc_lt _ _ _ (by simp [World.setCell]; omega), World.cell?_alloc_lt _ _ _ (by simp [World.setCell]; omega)]
   go_simp
 have t1 : ∀ o1 o2, (((w1.setCell ⟨w.heap.size + 1 + 1, 4, none⟩ (.bool true)).alloc o1).alloc o2).cell? ⟨w.heap.size + 1 + 1, 1, none⟩ = some (.int .i64 0) := by
   intro o1 o2
   rw [World.cell?_alloc_lt _ _ _ (by simp [World.setCell]; omega), World.cell?_alloc_lt _ _ _ (by simp [World.setCell]; omega)]
   go_simp
 have t2 : ∀ o1 o2, (((w1.setCell ⟨w.heap.size + 1 + 1, 4, none⟩ (.bool true)).alloc o1).alloc o2).cell? ⟨w.heap.size + 1 + 1, 2, none⟩ = some (.bool false) := by
   intro o1 o2
   rw [World.cell?_alloc_lt _ _ _ (by simp [World.setCell]; omega), World.cell?_alloc_lt _ _ _ (by simp [World.setCell]; omega)]
   go_simp
 have t3 : ∀ o1 o2, (((w1.setCell ⟨w.heap.size + 1 + 1, 4, none⟩ (.bool true)).alloc o1).alloc o2).cell? ⟨w.heap.size + 1 + 1, 3, none⟩ = some (.bool false) := by
   intro o1 o2
   rw [World.cell?_alloc_lt _ _ _ (by simp [World.setCell]; omega), World.cell?_alloc_lt _ _ _ (by simp [World.setCell]; omega)]
   go_simp
 have t4 : ∀ o1 o2, (((w1.setCell ⟨w.heap.size + 1 + 1, 4, none⟩ (.bool true)).alloc o1).alloc o2).cell? ⟨w.heap.size + 1 + 1, 4, none⟩ = some (.bool true) := by
   intro o1 o2
   rw [World.cell?_alloc_lt _ _ _ (by simp [World.setCell]; omega), World.cell?_alloc_lt _ _ _ (by simp [World.setCell]; omega)]
   go_simp
 go_wp2
 have T0 := t0 (.cells #[.int .i64 0, .int .i64 0] 23) (.cells #[.int .i64 0, .int .i64 0, .bool false, .bool false, .bool true] 37)
 have T1 := t1 (.cells #[.int .i64 0, .int .i64 0] 23) (.cells #[.int .i64 0, .int .i64 0, .bool false, .bool false, .bool true] 37)
 have T2 := t2 (.cells #[.int .i64 0, .int .i64 0] 23) (.cells #[.int .i64 0, .int .i64 0, .bool false, .bool false, .bool true] 37)
 have T3 := t3 (.cells #[.int .i64 0, .int .i64 0] 23) (.cells #[.int .i64 0, .int .i64 0, .bool false, .bool false, .bool true] 37)
 have T4 := t4 (.cells #[.int .i64 0, .int .i64 0] 23) (.cells #[.int .i64 0, .int .i64 0, .bool false, .bool false, .bool true] 37)
 have BL : Below w.heap.size w (((w1.setCell ⟨w.heap.size + 1 + 1, 4, none⟩ (.bool true)).alloc (.cells #[.int .i64 0, .int .i64 0] 23)).alloc (.cells #[.int .i64 0, .int .i64 0, .bool false, .bool false, .bool true] 37)) := ((bl.setCell (by simp; try omega) _).alloc (by simp; omega) _).alloc (by simp; omega) _
 clear t0 t1 t2 t3 t4
 generalize ((w1.setCell ⟨w.heap.size + 1 + 1, 4, none⟩ (.bool true)).alloc (.cells #[.int .i64 0, .int .i64 0] 23)).alloc (.cells #[.int .i64 0, .int .i64 0, .bool false, .bool false, .bool true] 37) = W2 at *
 refine bodyPost_ret (v := EffV 0 0 false false true) (by simp [results, Try.results102, go_sem, EffV, T0, T1, T2, T3, T4]) rfl ⟨rfl, ?_⟩
 exact BL
end Go.Proofs.Ytgkhldbnljdeiaa
namespace Go.Proofs.Ytgkhldbnljdeiaa
open Go.RowKit RangesMath Go.MapKept
attribute [local go_sem] World.setCell_self
def ShiftTo (k : Int) (f : Nat) (a b c d x y : Int) (s u : Bool) : Prop := ∀ w, Hid (Calls Try.prog 102 #[.int .i64 k, .func (.func f) #[] #[], .agg #[.int .i64 a, .int .i64 b], .agg #[.int .i64 c, .int .i64 d]] w fun e w' => e = .returned (EffV x y s false u) ∧ Below w.heap.size w w')
theorem parith_6 (k a b c d x y : Int) (s u : Bool) (kb : Nat) (w : World) (hkb : kb < w.heap.size) (hk : w.cell? ⟨kb, 0, none⟩ = some (.int .i64 k)) (C : ShiftTo k 103 a b c d x y s u) :
   Calls Try.prog 101 #[.agg #[.int .i64 a, .int .i64 b], .agg #[.int .i64 c, .int .i64 d], .pointer (some ⟨kb, 0, none⟩)] w fun e w' => e = .returned (EffV x y s false u) ∧ Below w.heap.size w w' := by
 have hk3 : ∀ o1 o2 o3, (((w.alloc o1).alloc o2).alloc o3).cell? ⟨kb, 0, none⟩ = some (.int .i64 k) := by
   intro o1 o2 o3
   rw [((((Below.refl w.heap.size w).alloc (Nat.le_refl _) o1).alloc (by simp) o2).alloc (by simp; omega) o3).cell (p := ⟨kb, 0, none⟩) hkb]
   exact hk
 clear hk
 go_enter Try.func101, Try.ntmps101
 go_wp2_with fail
 refine (C _).out.mono ?_
 rintro e w1 ⟨rfl, hB⟩
 unfold EffV
 have z : w.heap.size + 1 + 1 < w1.heap.size := by have := hB.size; simp at this; omega
 have r0 : w1.cell? ⟨w.heap.size + 1 + 1, 0, none⟩ = some (.int .i64 0) := cell_later hB (by go_simp)
 have r1 : w1.cell? ⟨w.heap.size + 1 + 1, 1, none⟩ = some (.int .i64 0) := cell_later hB (by go_simp)
 have r2 : w1.cell? ⟨w.heap.size + 1 + 1, 2, none⟩ = some (.bool false) := cell_later hB (by go_simp)
 have r3 : w1.cell? ⟨w.heap.size + 1 + 1, 3, none⟩ = some (.bool false) := cell_later hB (by go_simp)
 have r4 : w1.cell? ⟨w.heap.size + 1 + 1, 4, none⟩ = some (.bool false) := cell_later hB (by go_simp)
 have f0 : w1.frozen? ⟨w.heap.size + 1 + 1, 0, none⟩ = false := keepFr hB (by simp; try omega) (by go_simp)
 have f1 : w1.frozen? ⟨w.heap.size + 1 + 1, 1, none⟩ = false := keepFr hB (by simp; try omega) (by go_simp)
 have f2 : w1.frozen? ⟨w.heap.size + 1 + 1, 2, none⟩ = false := keepFr hB (by simp; try omega) (by go_simp)
 have f3 : w1.frozen? ⟨w.heap.size + 1 + 1, 3, none⟩ = false := keepFr hB (by simp; try omega) (by go_simp)
 have f4 : w1.frozen? ⟨w.heap.size + 1 + 1, 4, none⟩ = false := keepFr hB (by simp; try omega) (by go_simp)
 have bl : Below w.heap.size w w1 := (((Below.refl _ _).alloc (Nat.le_refl _) _).alloc (by simp) _).alloc (by simp; omega) _ |>.trans (hB.mono (by simp; omega))
 clear hB
 go_wp2
 refine bodyPost_ret (v := .agg #[.int .i64 x, .int .i64 y, .bool s, .bool false, .bool u]) (by simp [results, Try.results101, go_sem, r0, r1, r2, r3, r4]) rfl ⟨rfl, ?_⟩
 exact (((bl.setCell (by simp; try omega) _).setCell (by simp; try omega) _).setCell (by simp; try omega) _).setCell (by simp; try omega) _
theorem parith_7 (k a b c d x y : Int) (s u : Bool) (kb : Nat) (w : World) (hkb : kb < w.heap.size) (hk : w.cell? ⟨kb, 0, none⟩ = some (.int .i64 k)) (C : ShiftTo k 105 a b c d x y s u) :
   Calls Try.prog 104 #[.agg #[.int .i64 a, .int .i64 b], .agg #[.int .i64 c, .int .i64 d], .pointer (some ⟨kb, 0, none⟩)] w fun e w' => e = .returned (EffV x y s false u) ∧ Below w.heap.size w w' := by
 have hk3 : ∀ o1 o2 o3, (((w.alloc o1).alloc o2).alloc o3).cell? ⟨kb, 0, none⟩ = some (.int .i64 k) := by
   intro o1 o2 o3
   rw [((((Below.refl w.heap.size w).alloc (Nat.le_refl _) o1).alloc (by simp) o2).alloc (by simp; omega) o3).cell (p := ⟨kb, 0, none⟩) hkb]
   exact hk
 clear hk
 go_enter Try.func104, Try.ntmps104
 go_wp2_with fail
 refine (C _).out.mono ?_
 rintro e w1 ⟨rfl, hB⟩
 unfold EffV
 have z : w.heap.size + 1 + 1 < w1.heap.size := by have := hB.size; simp at this; omega
 have r0 : w1.cell? ⟨w.heap.size + 1 + 1, 0, none⟩ = some (.int .i64 0) := cell_later hB (by go_simp)
 have r1 : w1.cell? ⟨w.heap.size + 1 + 1, 1, none⟩ = some (.int .i64 0) := cell_later hB (by go_simp)
 have r2 : w1.cell? ⟨w.heap.size + 1 + 1, 2, none⟩ = some (.bool false) := cell_later hB (by go_simp)
 have r3 : w1.cell? ⟨w.heap.size + 1 + 1, 3, none⟩ = some (.bool false) := cell_later hB (by go_simp)
 have r4 : w1.cell? ⟨w.heap.size + 1 + 1, 4, none⟩ = some (.bool false) := cell_later hB (by go_simp)
 have f0 : w1.frozen? ⟨w.heap.size + 1 + 1, 0, none⟩ = false := keepFr hB (by simp; try omega) (by go_simp)
 have f1 : w1.frozen? ⟨w.heap.size + 1 + 1, 1, none⟩ = false := keepFr hB (by simp; try omega) (by go_simp)
 have f2 : w1.frozen? ⟨w.heap.size + 1 + 1, 2, none⟩ = false := keepFr hB (by simp; try omega) (by go_simp)
 have f3 : w1.frozen? ⟨w.heap.size + 1 + 1, 3, none⟩ = false := keepFr hB (by simp; try omega) (by go_simp)
 have f4 : w1.frozen? ⟨w.heap.size + 1 + 1, 4, none⟩ = false := keepFr hB (by simp; try omega) (by go_simp)
 have bl : Below w.heap.size w w1 := (((Below.refl _ _).alloc (Nat.le_refl _) _).alloc (by simp) _).alloc (by simp; omega) _ |>.trans (hB.mono (by simp; omega))
 clear hB
 go_wp2
 refine bodyPost_ret (v := .agg #[.int .i64 x, .int .i64 y, .bool s, .bool false, .bool u]) (by simp [results, Try.results104, go_sem, r0, r1, r2, r3, r4]) rfl ⟨rfl, ?_⟩
 exact (((bl.setCell (by simp; try omega) _).setCell (by simp; try omega) _).setCell (by simp; try omega) _).setCell (by simp; try omega) _
end Go.Proofs.Ytgkhldbnljdeiaa
namespace Go.Proofs.Ytgkhldbnljdeiaa
open Go.RowKit RangesMath Go.MapKept
theorem shift_to (k : Int) (f : Nat) (a b c d x y : Int) (hk : k = 1 ∨ k = 2) (h : max c 0 ≤ min d (top k)) (D : Calc1 k f a b (max c 0) (min d (top k)) x y) : ShiftTo k f a b c d x y true (decide (c < 0) || decide (top k < d)) := by
 intro w
 refine Lib.hid ?_
 have C := com_any c d 0 (top k)
 unfold comS at C
 rw [if_pos h] at C
 dsimp only at C
 have D := Lib.hid D
 by_cases h1 : c < 0
 · rw [show (decide (c < 0) || decide (top k < d)) = true by simp [h1]]
   rcases hk with rfl | rfl
   · exact pshifted_1a f a b c d _ _ x y w C D (by simp; omega)
   · exact pshifted_2a f a b c d _ _ x y w C D (by simp; omega)
 · rw [show max c 0 = c by omega] at C D
   by_cases h2 : top k < d
   · rw [show (decide (c < 0) || decide (top k < d)) = true by simp [h2]]
     rcases hk with rfl | rfl
     · exact pshifted_1b f a b c d _ x y w C D (by simp; omega)
     · exact pshifted_2b f a b c d _ x y w C D (by simp; omega)
   · rw [show (decide (c < 0) || decide (top k < d)) = false by simp; omega]
     rw [show min d (top k) = d by omega] at C D
     rcases hk with rfl | rfl
     · exact pshifted_1c f a b c d x y w C D
     · exact pshifted_2c f a b c d x y w C D
theorem shift_none (k : Int) (f : Nat) (a b c d : Int) (hk : k = 1 ∨ k = 2) (hcd : c ≤ d) (h : ¬ max c 0 ≤ min d (top k)) : ShiftTo k f a b c d 0 0 false (decide (c < 0) || decide (top k < d)) := by
 intro w
 refine Lib.hid ?_
 have C := com_any c d 0 (top k)
 unfold comS at C
 rw [if_neg h] at C
 dsimp only at C
 have ht : 0 ≤ top k := by rcases hk with rfl | rfl <;> decide
 rw [show (decide (c < 0) || decide (top k < d)) = true by simp; omega]
 rcases hk with rfl | rfl
 · exact pshifted_1d f a b c d w C (by simp; omega)
 · exact pshifted_2d f a b c d w C (by simp; omega)
theorem ent_a6 : Enters 101 := fun _ _ => by kernel_rfl
theorem ent_a7 : Enters 104 := fun _ _ => by kernel_rfl
theorem ent_multiplied : ∀ args w, (callFunc 103 args).run Try.prog w = .ok (.enter 103 args) w := fun _ _ => by kernel_rfl
theorem ent_halved : ∀ args w, (callFunc 105 args).run Try.prog w = .ok (.enter 105 args) w := fun _ _ => by kernel_rfl
theorem half_in (v : Int) (t : Nat) : min v 0 ≤ v / 2 ^ t ∧ v / 2 ^ t ≤ max v 0 := by
 have p : (0 : Int) < 2 ^ t := Int.pow_pos (by omega)
 by_cases hv : 0 ≤ v
 · have e := Int.ediv_nonneg hv (show (0 : Int) ≤ 2 ^ t by omega)
   have f := ediv_den v 1 (2 ^ t) hv (by omega) (by omega)
   rw [Int.ediv_one] at f
   omega
 · have f := ediv_den_neg v 1 (2 ^ t) (by omega) (by omega) (by omega)
   rw [Int.ediv_one] at f
   have g : v / 2 ^ t ≤ 0 := Int.ediv_nonpos_of_nonpos_of_neg (by omega) p
   omega
theorem bin_shr (k a b c d : Int) (hk : k = 1 ∨ k = 2) (h1 : checkErr k a b = 0) (h2 : checkErr k c d = 0) : BinIs 7 k a b c d := by
 intro w
 have o1 := check_ok64 h1
 have o2 := check_ok64 h2
 have p1 := o1.le
 have p2 := o1.lo
 have p3 := o1.hi
 have c1 := check_parts h1
 have ht : top k ≤ 63 := by rcases hk with rfl | rfl <;> decide
 by_cases h : max c 0 ≤ min d (top k)
 · have e : binS 7 k a b c d = ⟨min4 (a / 2 ^ (max c 0).toNat) (a / 2 ^ (min d (top k)).toNat) (b / 2 ^ (max c 0).toNat) (b / 2 ^ (min d (top k)).toNat), max4 (a / 2 ^ (max c 0).toNat) (a / 2 ^ (min d (top k)).toNat) (b / 2 ^ (max c 0).toNat) (b / 2 ^ (min d (top k)).toNat), true, false, decide (c < 0) || decide (top k < d)⟩ := by simp [binS, h]
   rw [e]
   have q1 := half_in a (max c 0).toNat
   have q2 := half_in a (min d (top k)).toNat
   have q3 := half_in b (max c 0).toNat
   have q4 := half_in b (min d (top k)).toNat
   have lo0 : fullLow k ≤ 0 := by rcases hk with rfl | rfl <;> decide
   have hi0 : 0 ≤ fullHigh k := by rcases hk with rfl | rfl <;> decide
   have x1 := c1.2.2.1
   have x2 := c1.2.2.2
   have B : fullLow k ≤ min4 (a / 2 ^ (max c 0).toNat) (a / 2 ^ (min d (top k)).toNat) (b / 2 ^ (max c 0).toNat) (b / 2 ^ (min d (top k)).toNat) ∧ min4 (a / 2 ^ (max c 0).toNat) (a / 2 ^ (min d (top k)).toNat) (b / 2 ^ (max c 0).toNat) (b / 2 ^ (min d (top k)).toNat) ≤ max4 (a / 2 ^ (max c 0).toNat) (a / 2 ^ (min d (top k)).toNat) (b / 2 ^ (max c 0).toNat) (b / 2 ^ (min d (top k)).toNat) ∧ max4 (a / 2 ^ (max c 0).toNat) (a / 2 ^ (min d (top k)).toNat) (b / 2 ^ (max c 0).toNat) (b / 2 ^ (min d (top k)).toNat) ≤ fullHigh k := by
     unfold min4 max4
     generalize a / 2 ^ (max c 0).toNat = y1 at *
     generalize a / 2 ^ (min d (top k)).toNat = y2 at *
     generalize b / 2 ^ (max c 0).toNat = y3 at *
     generalize b / 2 ^ (min d (top k)).toNat = y4 at *
     omega
   have N : NumFn 105 (fun x y => x / 2 ^ y.toNat) [⟨a, b, max c 0, min d (top k)⟩] := by
     intro p hp u hu z hz w
     simp only [List.mem_singleton] at hp
     subst hp
     dsimp only at hu hz
     have q := half_in u z.toNat
     exact phalved u z (u / 2 ^ z.toNat) w (by omega) (by omega) (by omega) (by omega) rfl
   have C := calc_ok k 105 (fun x y => x / 2 ^ y.toNat) [⟨a, b, max c 0, min d (top k)⟩] (min4 (a / 2 ^ (max c 0).toNat) (a / 2 ^ (min d (top k)).toNat) (b / 2 ^ (max c 0).toNat) (b / 2 ^ (min d (top k)).toNat)) (max4 (a / 2 ^ (max c 0).toNat) (a / 2 ^ (min d (top k)).toNat) (b / 2 ^ (max c 0).toNat) (b / 2 ^ (min d (top k)).toNat)) (by simp) (by simp) ent_halved N (by simp [endsTo, cornersOf, minTo, min4]; try omega) (by simp [endsTo, cornersOf, maxTo, max4]; try omega)
     (by
       rcases hk with h | h
       · exact .inl h
       · subst h
         have z1 := B.1
         have z2 := B.2.2
         rw [show fullLow 2 = 0 by rfl] at z1
         rw [show fullHigh 2 = 255 by rfl] at z2
         have z3 := B.2.1
         exact .inr ⟨rfl, by omega, by omega, by omega, by omega⟩)
   rw [fin_in hk B.1 B.2.1 B.2.2] at C
   refine binary_arith 7 k a b c d _ _ _ _ _ hk (by omega) (fun w => arith_eff 7 k a b c d _ _ _ _ _ 104 6 (fun n => rfl) ent_a7 ?_ w) (okB_of h1) (okB_of h2) w
   intro kb w hkb hk'
   exact parith_7 k a b c d _ _ _ _ kb w hkb hk' (shift_to k 105 a b c d _ _ hk h (calc1_of C))
 · have e : binS 7 k a b c d = ⟨0, 0, false, false, decide (c < 0) || decide (top k < d)⟩ := by simp [binS, h]
   rw [e]
   refine binary_arith 7 k a b c d _ _ _ _ _ hk (by omega) (fun w => arith_eff 7 k a b c d _ _ _ _ _ 104 6 (fun n => rfl) ent_a7 ?_ w) (okB_of h1) (okB_of h2) w
   intro kb w hkb hk'
   exact parith_7 k a b c d _ _ _ _ kb w hkb hk' (shift_none k 105 a b c d hk o2.le h)
end Go.Proofs.Ytgkhldbnljdeiaa
namespace Go.Proofs.Ytgkhldbnljdeiaa
open Go.RowKit RangesMath Go.MapKept
theorem pow_small (t : Nat) (h : t ≤ 7) : (1 : Int) ≤ 2 ^ t ∧ (2 : Int) ^ t ≤ 128 := by
 have e := pow_mono 0 t (by omega)
 have f := pow_mono t 7 h
 exact ⟨by simpa using e, by simpa using f⟩
theorem bin_shl (k a b c d : Int) (hk : k = 1 ∨ k = 2) (h1 : checkErr k a b = 0) (h2 : checkErr k c d = 0) : BinIs 6 k a b c d := by
 intro w
 have o1 := check_ok64 h1
 have o2 := check_ok64 h2
 have ht : top k ≤ 63 := by rcases hk with rfl | rfl <;> decide
 by_cases h : max c 0 ≤ min d (top k)
 · have e : binS 6 k a b c d = ⟨(fin (min4 (a * 2 ^ (max c 0).toNat) (a * 2 ^ (min d (top k)).toNat) (b * 2 ^ (max c 0).toNat) (b * 2 ^ (min d (top k)).toNat)) (max4 (a * 2 ^ (max c 0).toNat) (a * 2 ^ (min d (top k)).toNat) (b * 2 ^ (max c 0).toNat) (b * 2 ^ (min d (top k)).toNat)) k).1, (fin (min4 (a * 2 ^ (max c 0).toNat) (a * 2 ^ (min d (top k)).toNat) (b * 2 ^ (max c 0).toNat) (b * 2 ^ (min d (top k)).toNat)) (max4 (a * 2 ^ (max c 0).toNat) (a * 2 ^ (min d (top k)).toNat) (b * 2 ^ (max c 0).toNat) (b * 2 ^ (min d (top k)).toNat)) k).2, true, false, decide (c < 0) || decide (top k < d)⟩ := by simp [binS, h]
   rw [e]
   have N : NumFn 103 (fun x y => x * 2 ^ y.toNat) [⟨a, b, max c 0, min d (top k)⟩] := by
     intro p hp u hu z hz w
     simp only [List.mem_singleton] at hp
     subst hp
     dsimp only at hu hz
     exact pmultiplied u z w (by omega) (by omega)
   have C := calc_ok k 103 (fun x y => x * 2 ^ y.toNat) [⟨a, b, max c 0, min d (top k)⟩] (min4 (a * 2 ^ (max c 0).toNat) (a * 2 ^ (min d (top k)).toNat) (b * 2 ^ (max c 0).toNat) (b * 2 ^ (min d (top k)).toNat)) (max4 (a * 2 ^ (max c 0).toNat) (a * 2 ^ (min d (top k)).toNat) (b * 2 ^ (max c 0).toNat) (b * 2 ^ (min d (top k)).toNat)) (by simp) (by simp) ent_multiplied N (by simp [endsTo, cornersOf, minTo, min4]; try omega) (by simp [endsTo, cornersOf, maxTo, max4]; try omega)
     (by
       rcases hk with h' | h'
       · exact .inl h'
       · subst h'
         have x := check_byte rfl h1
         have p1 := o1.le
         have t7 : top 2 = 7 := rfl
         rw [t7] at h ⊢
         have y1 := pow_small (max c 0).toNat (by omega)
         have y2 := pow_small (min d 7).toNat (by omega)
         have m1 := mul_byte (u := a) (v := 2 ^ (max c 0).toNat) (by omega) (by omega) (by omega) (by omega)
         have m2 := mul_byte (u := a) (v := 2 ^ (min d 7).toNat) (by omega) (by omega) (by omega) (by omega)
         have m3 := mul_byte (u := b) (v := 2 ^ (max c 0).toNat) (by omega) (by omega) (by omega) (by omega)
         have m4 := mul_byte (u := b) (v := 2 ^ (min d 7).toNat) (by omega) (by omega) (by omega) (by omega)
         exact .inr ⟨rfl, by unfold min4; omega, by unfold min4; omega, by unfold max4; omega, by unfold max4; omega⟩)
   refine binary_arith 6 k a b c d _ _ _ _ _ hk (by omega) (fun w => arith_eff 6 k a b c d _ _ _ _ _ 101 5 (fun n => rfl) ent_a6 ?_ w) (okB_of h1) (okB_of h2) w
   intro kb w hkb hk'
   exact parith_6 k a b c d _ _ _ _ kb w hkb hk' (shift_to k 103 a b c d _ _ hk h (calc1_of C))
 · have e : binS 6 k a b c d = ⟨0, 0, false, false, decide (c < 0) || decide (top k < d)⟩ := by simp [binS, h]
   rw [e]
   refine binary_arith 6 k a b c d _ _ _ _ _ hk (by omega) (fun w => arith_eff 6 k a b c d _ _ _ _ _ 101 5 (fun n => rfl) ent_a6 ?_ w) (okB_of h1) (okB_of h2) w
   intro kb w hkb hk'
   exact parith_6 k a b c d _ _ _ _ kb w hkb hk' (shift_none k 103 a b c d hk o2.le h)
end Go.Proofs.Ytgkhldbnljdeiaa
