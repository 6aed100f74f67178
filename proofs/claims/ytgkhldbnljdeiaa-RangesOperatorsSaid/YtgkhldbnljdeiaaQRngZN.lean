/- shifted of layer 4: the effect of a shift, out of what common and calculated answer. -/
import Derived.Test.YtgkhldbnljdeiaaQRngZHToRngZM
set_option maxRecDepth 100000
set_option maxHeartbeats 4000000
set_option linter.unusedSimpArgs false
set_option linter.unusedVariables false
namespace Go.Proofs.Ytgkhldbnljdeiaa
open Go.RowKit RangesMath Go.MapKept
attribute [local go_sem] World.setCell_self
theorem pshifted_1a (f : Nat) (a b c d m n x y : Int) (w : World) (C : Com c d 0 63 m n true) (D : Hid (Calc1 1 f a b m n x y)) (hm : (m == c) = false) :
   Calls Try.prog 102 #[.int .i64 1, .func (.func f) #[] #[], .agg #[.int .i64 a, .int .i64 b], .agg #[.int .i64 c, .int .i64 d]] w fun e w' => e = .returned (EffV x y true false true) ∧ Below w.heap.size w w' := by
 go_enter Try.func102, Try.ntmps102
 go_wp2_with fail
 refine (C _).out.mono ?_
 rintro e w1 ⟨rfl, hB⟩
 have z0 : w.heap.size < w1.heap.size := by have := hB.size; simp at this; omega
 have z1 : w.heap.size + 1 < w1.heap.size := by have := hB.size; simp at this; omega
 have z2 : w.heap.size + 1 + 1 < w1.heap.size := by have := hB.size; simp at this; omega
 have a0 : w1.cell? ⟨w.heap.size, 0, none⟩ = some (.int .i64 a) := cell_later hB (by go_simp)
 have a1 : w1.cell? ⟨w.heap.size, 1, none⟩ = some (.int .i64 b) := cell_later hB (by go_simp)
 have c0 : w1.cell? ⟨w.heap.size + 1, 0, none⟩ = some (.int .i64 c) := cell_later hB (by go_simp)
 have c1 : w1.cell? ⟨w.heap.size + 1, 1, none⟩ = some (.int .i64 d) := cell_later hB (by go_simp)
 have r0 : w1.cell? ⟨w.heap.size + 1 + 1, 0, none⟩ = some (.int .i64 0) := cell_later hB (by go_simp)
 have r1 : w1.cell? ⟨w.heap.size + 1 + 1, 1, none⟩ = some (.int .i64 0) := cell_later hB (by go_simp)
 have r2 : w1.cell? ⟨w.heap.size + 1 + 1, 2, none⟩ = some (.bool false) := cell_later hB (by go_simp)
 have r3 : w1.cell? ⟨w.heap.size + 1 + 1, 3, none⟩ = some (.bool false) := cell_later hB (by go_simp)
 have r4 : w1.cell? ⟨w.heap.size + 1 + 1, 4, none⟩ = some (.bool false) := cell_later hB (by go_simp)
 have f0 : w1.frozen? ⟨w.heap.size + 1 + 1, 0, none⟩ = false := keepFr hB (by simp; try omega) (by go_simp)
 have f1 : w1.frozen? ⟨w.heap.size + 1 + 1, 1, none⟩ = false := keepFr hB (by simp; try omega) (by go_simp)
 have f2 : w1.frozen? ⟨w.heap.size + 1 + 1, 2, none⟩ = false := keepFr hB (by simp; try omega) (by go_simp)
 have f3 : w1.frozen? ⟨w.heap.size + 1 + 1, 3, none⟩ = false := keepFr hB (by simp; try omega) (by go_simp)
 have f4 : w1.frozen? ⟨w.heap.size + 1 + 1, 4, none⟩ = false := keepFr hB (by simp; try omega) (by go_simp)
 have bl : Below w.heap.size w w1 := (((((Below.refl _ _).alloc (Nat.le_refl _) _).alloc (by simp) _).alloc (by simp; omega) _).alloc (by simp; omega) _).trans (hB.mono (by simp; omega))
 clear hB
 go_wp2_with fail
 refine (D.out _ _ _ (by simp) (by omega) (by go_simp) (by go_simp) (by go_simp) (by go_simp)).mono ?_
 rintro e w2 ⟨rfl, hB2⟩
 have y0 : w1.heap.size + 1 < w2.heap.size := by have := hB2.size; simp at this; omega
 have y1 : w.heap.size + 1 + 1 < w2.heap.size := by omega
 have y2 : w1.heap.size < w2.heap.size := by omega
 have b0 : w2.cell? ⟨w1.heap.size, 0, none⟩ = some (.int .i64 m) := cell_later hB2 (by go_simp)
 have b1 : w2.cell? ⟨w1.heap.size, 1, none⟩ = some (.int .i64 n) := cell_later hB2 (by go_simp)
 have d0 : w2.cell? ⟨w.heap.size + 1, 0, none⟩ = some (.int .i64 c) := cell_later hB2 (by go_simp)
 have d1 : w2.cell? ⟨w.heap.size + 1, 1, none⟩ = some (.int .i64 d) := cell_later hB2 (by go_simp)
 have q0 : w2.cell? ⟨w.heap.size + 1 + 1, 0, none⟩ = some (.int .i64 0) := cell_later hB2 (by go_simp)
 have q1 : w2.cell? ⟨w.heap.size + 1 + 1, 1, none⟩ = some (.int .i64 0) := cell_later hB2 (by go_simp)
 have q2 : w2.cell? ⟨w.heap.size + 1 + 1, 2, none⟩ = some (.bool false) := cell_later hB2 (by go_simp)
 have q3 : w2.cell? ⟨w.heap.size + 1 + 1, 3, none⟩ = some (.bool false) := cell_later hB2 (by go_simp)
 have q4 : w2.cell? ⟨w.heap.size + 1 + 1, 4, none⟩ = some (.bool false) := cell_later hB2 (by go_simp)
 have s0 : w2.cell? ⟨w1.heap.size + 1, 0, none⟩ = some (.int .i64 0) := cell_later hB2 (by go_simp)
 have s1 : w2.cell? ⟨w1.heap.size + 1, 1, none⟩ = some (.int .i64 0) := cell_later hB2 (by go_simp)
 have s2 : w2.cell? ⟨w1.heap.size + 1, 2, none⟩ = some (.bool false) := cell_later hB2 (by go_simp)
 have s3 : w2.cell? ⟨w1.heap.size + 1, 3, none⟩ = some (.bool false) := cell_later hB2 (by go_simp)
 have s4 : w2.cell? ⟨w1.heap.size + 1, 4, none⟩ = some (.bool false) := cell_later hB2 (by go_simp)
 have g0 : w2.frozen? ⟨w.heap.size + 1 + 1, 0, none⟩ = false := keepFr hB2 (by simp; try omega) (by go_simp)
 have g1 : w2.frozen? ⟨w.heap.size + 1 + 1, 1, none⟩ = false := keepFr hB2 (by simp; try omega) (by go_simp)
 have g2 : w2.frozen? ⟨w.heap.size + 1 + 1, 2, none⟩ = false := keepFr hB2 (by simp; try omega) (by go_simp)
 have g3 : w2.frozen? ⟨w.heap.size + 1 + 1, 3, none⟩ = false := keepFr hB2 (by simp; try omega) (by go_simp)
 have g4 : w2.frozen? ⟨w.heap.size + 1 + 1, 4, none⟩ = false := keepFr hB2 (by simp; try omega) (by go_simp)
 have h0 : w2.frozen? ⟨w1.heap.size + 1, 0, none⟩ = false := keepFr hB2 (by simp; try omega) (by go_simp)
 have h1 : w2.frozen? ⟨w1.heap.size + 1, 1, none⟩ = false := keepFr hB2 (by simp; try omega) (by go_simp)
 have h2 : w2.frozen? ⟨w1.heap.size + 1, 2, none⟩ = false := keepFr hB2 (by simp; try omega) (by go_simp)
 have h3 : w2.frozen? ⟨w1.heap.size + 1, 3, none⟩ = false := keepFr hB2 (by simp; try omega) (by go_simp)
 have h4 : w2.frozen? ⟨w1.heap.size + 1, 4, none⟩ = false := keepFr hB2 (by simp; try omega) (by go_simp)
 have bl2 : Below w.heap.size w w2 := (((bl.alloc (by omega) _).alloc (by simp; omega) _).alloc (by simp; omega) _).trans (hB2.mono (by simp; omega))
 clear hB2 bl a0 a1 c0 c1 r0 f0 r1 f1 r2 f2 r3 f3 r4 f4
 go_wp2
 refine bodyPost_ret (v := EffV x y true false true) (by simp [results, Try.results102, go_sem, EffV, q0, q1, q2, q3, q4, s0, s1, s2, s3, s4]) rfl ⟨rfl, ?_⟩
 exact ((((((((bl2).setCell (by simp; try omega) _).setCell (by simp; try omega) _).setCell (by simp; try omega) _).setCell (by simp; try omega) _).setCell (by simp; try omega) _).setCell (by simp; try omega) _).setCell (by simp; try omega) _).setCell (by simp; try omega) _
theorem pshifted_1b (f : Nat) (a b c d n x y : Int) (w : World) (C : Com c d 0 63 c n true) (D : Hid (Calc1 1 f a b c n x y)) (hn : (n == d) = false) :
   Calls Try.prog 102 #[.int .i64 1, .func (.func f) #[] #[], .agg #[.int .i64 a, .int .i64 b], .agg #[.int .i64 c, .int .i64 d]] w fun e w' => e = .returned (EffV x y true false true) ∧ Below w.heap.size w w' := by
 go_enter Try.func102, Try.ntmps102
 go_wp2_with fail
 refine (C _).out.mono ?_
 rintro e w1 ⟨rfl, hB⟩
 have z0 : w.heap.size < w1.heap.size := by have := hB.size; simp at this; omega
 have z1 : w.heap.size + 1 < w1.heap.size := by have := hB.size; simp at this; omega
 have z2 : w.heap.size + 1 + 1 < w1.heap.size := by have := hB.size; simp at this; omega
 have a0 : w1.cell? ⟨w.heap.size, 0, none⟩ = some (.int .i64 a) := cell_later hB (by go_simp)
 have a1 : w1.cell? ⟨w.heap.size, 1, none⟩ = some (.int .i64 b) := cell_later hB (by go_simp)
 have c0 : w1.cell? ⟨w.heap.size + 1, 0, none⟩ = some (.int .i64 c) := cell_later hB (by go_simp)
 have c1 : w1.cell? ⟨w.heap.size + 1, 1, none⟩ = some (.int .i64 d) := cell_later hB (by go_simp)
 have r0 : w1.cell? ⟨w.heap.size + 1 + 1, 0, none⟩ = some (.int .i64 0) := cell_later hB (by go_simp)
 have r1 : w1.cell? ⟨w.heap.size + 1 + 1, 1, none⟩ = some (.int .i64 0) := cell_later hB (by go_simp)
 have r2 : w1.cell? ⟨w.heap.size + 1 + 1, 2, none⟩ = some (.bool false) := cell_later hB (by go_simp)
 have r3 : w1.cell? ⟨w.heap.size + 1 + 1, 3, none⟩ = some (.bool false) := cell_later hB (by go_simp)
 have r4 : w1.cell? ⟨w.heap.size + 1 + 1, 4, none⟩ = some (.bool false) := cell_later hB (by go_simp)
 have f0 : w1.frozen? ⟨w.heap.size + 1 + 1, 0, none⟩ = false := keepFr hB (by simp; try omega) (by go_simp)
 have f1 : w1.frozen? ⟨w.heap.size + 1 + 1, 1, none⟩ = false := keepFr hB (by simp; try omega) (by go_simp)
 have f2 : w1.frozen? ⟨w.heap.size + 1 + 1, 2, none⟩ = false := keepFr hB (by simp; try omega) (by go_simp)
 have f3 : w1.frozen? ⟨w.heap.size + 1 + 1, 3, none⟩ = false := keepFr hB (by simp; try omega) (by go_simp)
 have f4 : w1.frozen? ⟨w.heap.size + 1 + 1, 4, none⟩ = false := keepFr hB (by simp; try omega) (by go_simp)
 have bl : Below w.heap.size w w1 := (((((Below.refl _ _).alloc (Nat.le_refl _) _).alloc (by simp) _).alloc (by simp; omega) _).alloc (by simp; omega) _).trans (hB.mono (by simp; omega))
 clear hB
 go_wp2_with fail
 refine (D.out _ _ _ (by simp) (by omega) (by go_simp) (by go_simp) (by go_simp) (by go_simp)).mono ?_
 rintro e w2 ⟨rfl, hB2⟩
 have y0 : w1.heap.size + 1 < w2.heap.size := by have := hB2.size; simp at this; omega
 have y1 : w.heap.size + 1 + 1 < w2.heap.size := by omega
 have y2 : w1.heap.size < w2.heap.size := by omega
 have b0 : w2.cell? ⟨w1.heap.size, 0, none⟩ = some (.int .i64 c) := cell_later hB2 (by go_simp)
 have b1 : w2.cell? ⟨w1.heap.size, 1, none⟩ = some (.int .i64 n) := cell_later hB2 (by go_simp)
 have d0 : w2.cell? ⟨w.heap.size + 1, 0, none⟩ = some (.int .i64 c) := cell_later hB2 (by go_simp)
 have d1 : w2.cell? ⟨w.heap.size + 1, 1, none⟩ = some (.int .i64 d) := cell_later hB2 (by go_simp)
 have q0 : w2.cell? ⟨w.heap.size + 1 + 1, 0, none⟩ = some (.int .i64 0) := cell_later hB2 (by go_simp)
 have q1 : w2.cell? ⟨w.heap.size + 1 + 1, 1, none⟩ = some (.int .i64 0) := cell_later hB2 (by go_simp)
 have q2 : w2.cell? ⟨w.heap.size + 1 + 1, 2, none⟩ = some (.bool false) := cell_later hB2 (by go_simp)
 have q3 : w2.cell? ⟨w.heap.size + 1 + 1, 3, none⟩ = some (.bool false) := cell_later hB2 (by go_simp)
 have q4 : w2.cell? ⟨w.heap.size + 1 + 1, 4, none⟩ = some (.bool false) := cell_later hB2 (by go_simp)
 have s0 : w2.cell? ⟨w1.heap.size + 1, 0, none⟩ = some (.int .i64 0) := cell_later hB2 (by go_simp)
 have s1 : w2.cell? ⟨w1.heap.size + 1, 1, none⟩ = some (.int .i64 0) := cell_later hB2 (by go_simp)
 have s2 : w2.cell? ⟨w1.heap.size + 1, 2, none⟩ = some (.bool false) := cell_later hB2 (by go_simp)
 have s3 : w2.cell? ⟨w1.heap.size + 1, 3, none⟩ = some (.bool false) := cell_later hB2 (by go_simp)
 have s4 : w2.cell? ⟨w1.heap.size + 1, 4, none⟩ = some (.bool false) := cell_later hB2 (by go_simp)
 have g0 : w2.frozen? ⟨w.heap.size + 1 + 1, 0, none⟩ = false := keepFr hB2 (by simp; try omega) (by go_simp)
 have g1 : w2.frozen? ⟨w.heap.size + 1 + 1, 1, none⟩ = false := keepFr hB2 (by simp; try omega) (by go_simp)
 have g2 : w2.frozen? ⟨w.heap.size + 1 + 1, 2, none⟩ = false := keepFr hB2 (by simp; try omega) (by go_simp)
 have g3 : w2.frozen? ⟨w.heap.size + 1 + 1, 3, none⟩ = false := keepFr hB2 (by simp; try omega) (by go_simp)
 have g4 : w2.frozen? ⟨w.heap.size + 1 + 1, 4, none⟩ = false := keepFr hB2 (by simp; try omega) (by go_simp)
 have h0 : w2.frozen? ⟨w1.heap.size + 1, 0, none⟩ = false := keepFr hB2 (by simp; try omega) (by go_simp)
 have h1 : w2.frozen? ⟨w1.heap.size + 1, 1, none⟩ = false := keepFr hB2 (by simp; try omega) (by go_simp)
 have h2 : w2.frozen? ⟨w1.heap.size + 1, 2, none⟩ = false := keepFr hB2 (by simp; try omega) (by go_simp)
 have h3 : w2.frozen? ⟨w1.heap.size + 1, 3, none⟩ = false := keepFr hB2 (by simp; try omega) (by go_simp)
 have h4 : w2.frozen? ⟨w1.heap.size + 1, 4, none⟩ = false := keepFr hB2 (by simp; try omega) (by go_simp)
 have bl2 : Below w.heap.size w w2 := (((bl.alloc (by omega) _).alloc (by simp; omega) _).alloc (by simp; omega) _).trans (hB2.mono (by simp; omega))
 clear hB2 bl a0 a1 c0 c1 r0 f0 r1 f1 r2 f2 r3 f3 r4 f4
 go_wp2
 refine bodyPost_ret (v := EffV x y true false true) (by simp [results, Try.results102, go_sem, EffV, q0, q1, q2, q3, q4, s0, s1, s2, s3, s4]) rfl ⟨rfl, ?_⟩
 exact ((((((((bl2).setCell (by simp; try omega) _).setCell (by simp; try omega) _).setCell (by simp; try omega) _).setCell (by simp; try omega) _).setCell (by simp; try omega) _).setCell (by simp; try omega) _).setCell (by simp; try omega) _).setCell (by simp; try omega) _
theorem pshifted_1c (f : Nat) (a b c d x y : Int) (w : World) (C : Com c d 0 63 c d true) (D : Hid (Calc1 1 f a b c d x y))  :
   Calls Try.prog 102 #[.int .i64 1, .func (.func f) #[] #[], .agg #[.int .i64 a, .int .i64 b], .agg #[.int .i64 c, .int .i64 d]] w fun e w' => e = .returned (EffV x y true false false) ∧ Below w.heap.size w w' := by
 go_enter Try.func102, Try.ntmps102
 go_wp2_with fail
 refine (C _).out.mono ?_
 rintro e w1 ⟨rfl, hB⟩
 have z0 : w.heap.size < w1.heap.size := by have := hB.size; simp at this; omega
 have z1 : w.heap.size + 1 < w1.heap.size := by have := hB.size; simp at this; omega
 have z2 : w.heap.size + 1 + 1 < w1.heap.size := by have := hB.size; simp at this; omega
 have a0 : w1.cell? ⟨w.heap.size, 0, none⟩ = some (.int .i64 a) := cell_later hB (by go_simp)
 have a1 : w1.cell? ⟨w.heap.size, 1, none⟩ = some (.int .i64 b) := cell_later hB (by go_simp)
 have c0 : w1.cell? ⟨w.heap.size + 1, 0, none⟩ = some (.int .i64 c) := cell_later hB (by go_simp)
 have c1 : w1.cell? ⟨w.heap.size + 1, 1, none⟩ = some (.int .i64 d) := cell_later hB (by go_simp)
 have r0 : w1.cell? ⟨w.heap.size + 1 + 1, 0, none⟩ = some (.int .i64 0) := cell_later hB (by go_simp)
 have r1 : w1.cell? ⟨w.heap.size + 1 + 1, 1, none⟩ = some (.int .i64 0) := cell_later hB (by go_simp)
 have r2 : w1.cell? ⟨w.heap.size + 1 + 1, 2, none⟩ = some (.bool false) := cell_later hB (by go_simp)
 have r3 : w1.cell? ⟨w.heap.size + 1 + 1, 3, none⟩ = some (.bool false) := cell_later hB (by go_simp)
 have r4 : w1.cell? ⟨w.heap.size + 1 + 1, 4, none⟩ = some (.bool false) := cell_later hB (by go_simp)
 have f0 : w1.frozen? ⟨w.heap.size + 1 + 1, 0, none⟩ = false := keepFr hB (by simp; try omega) (by go_simp)
 have f1 : w1.frozen? ⟨w.heap.size + 1 + 1, 1, none⟩ = false := keepFr hB (by simp; try omega) (by go_simp)
 have f2 : w1.frozen? ⟨w.heap.size + 1 + 1, 2, none⟩ = false := keepFr hB (by simp; try omega) (by go_simp)
 have f3 : w1.frozen? ⟨w.heap.size + 1 + 1, 3, none⟩ = false := keepFr hB (by simp; try omega) (by go_simp)
 have f4 : w1.frozen? ⟨w.heap.size + 1 + 1, 4, none⟩ = false := keepFr hB (by simp; try omega) (by go_simp)
 have bl : Below w.heap.size w w1 := (((((Below.refl _ _).alloc (Nat.le_refl _) _).alloc (by simp) _).alloc (by simp; omega) _).alloc (by simp; omega) _).trans (hB.mono (by simp; omega))
 clear hB
 go_wp2_with fail
 refine (D.out _ _ _ (by simp) (by omega) (by go_simp) (by go_simp) (by go_simp) (by go_simp)).mono ?_
 rintro e w2 ⟨rfl, hB2⟩
 have y0 : w1.heap.size + 1 < w2.heap.size := by have := hB2.size; simp at this; omega
 have y1 : w.heap.size + 1 + 1 < w2.heap.size := by omega
 have y2 : w1.heap.size < w2.heap.size := by omega
 have b0 : w2.cell? ⟨w1.heap.size, 0, none⟩ = some (.int .i64 c) := cell_later hB2 (by go_simp)
 have b1 : w2.cell? ⟨w1.heap.size, 1, none⟩ = some (.int .i64 d) := cell_later hB2 (by go_simp)
 have d0 : w2.cell? ⟨w.heap.size + 1, 0, none⟩ = some (.int .i64 c) := cell_later hB2 (by go_simp)
 have d1 : w2.cell? ⟨w.heap.size + 1, 1, none⟩ = some (.int .i64 d) := cell_later hB2 (by go_simp)
 have q0 : w2.cell? ⟨w.heap.size + 1 + 1, 0, none⟩ = some (.int .i64 0) := cell_later hB2 (by go_simp)
 have q1 : w2.cell? ⟨w.heap.size + 1 + 1, 1, none⟩ = some (.int .i64 0) := cell_later hB2 (by go_simp)
 have q2 : w2.cell? ⟨w.heap.size + 1 + 1, 2, none⟩ = some (.bool false) := cell_later hB2 (by go_simp)
 have q3 : w2.cell? ⟨w.heap.size + 1 + 1, 3, none⟩ = some (.bool false) := cell_later hB2 (by go_simp)
 have q4 : w2.cell? ⟨w.heap.size + 1 + 1, 4, none⟩ = some (.bool false) := cell_later hB2 (by go_simp)
 have s0 : w2.cell? ⟨w1.heap.size + 1, 0, none⟩ = some (.int .i64 0) := cell_later hB2 (by go_simp)
 have s1 : w2.cell? ⟨w1.heap.size + 1, 1, none⟩ = some (.int .i64 0) := cell_later hB2 (by go_simp)
 have s2 : w2.cell? ⟨w1.heap.size + 1, 2, none⟩ = some (.bool false) := cell_later hB2 (by go_simp)
 have s3 : w2.cell? ⟨w1.heap.size + 1, 3, none⟩ = some (.bool false) := cell_later hB2 (by go_simp)
 have s4 : w2.cell? ⟨w1.heap.size + 1, 4, none⟩ = some (.bool false) := cell_later hB2 (by go_simp)
 have g0 : w2.frozen? ⟨w.heap.size + 1 + 1, 0, none⟩ = false := keepFr hB2 (by simp; try omega) (by go_simp)
 have g1 : w2.frozen? ⟨w.heap.size + 1 + 1, 1, none⟩ = false := keepFr hB2 (by simp; try omega) (by go_simp)
 have g2 : w2.frozen? ⟨w.heap.size + 1 + 1, 2, none⟩ = false := keepFr hB2 (by simp; try omega) (by go_simp)
 have g3 : w2.frozen? ⟨w.heap.size + 1 + 1, 3, none⟩ = false := keepFr hB2 (by simp; try omega) (by go_simp)
 have g4 : w2.frozen? ⟨w.heap.size + 1 + 1, 4, none⟩ = false := keepFr hB2 (by simp; try omega) (by go_simp)
 have h0 : w2.frozen? ⟨w1.heap.size + 1, 0, none⟩ = false := keepFr hB2 (by simp; try omega) (by go_simp)
 have h1 : w2.frozen? ⟨w1.heap.size + 1, 1, none⟩ = false := keepFr hB2 (by simp; try omega) (by go_simp)
 have h2 : w2.frozen? ⟨w1.heap.size + 1, 2, none⟩ = false := keepFr hB2 (by simp; try omega) (by go_simp)
 have h3 : w2.frozen? ⟨w1.heap.size + 1, 3, none⟩ = false := keepFr hB2 (by simp; try omega) (by go_simp)
 have h4 : w2.frozen? ⟨w1.heap.size + 1, 4, none⟩ = false := keepFr hB2 (by simp; try omega) (by go_simp)
 have bl2 : Below w.heap.size w w2 := (((bl.alloc (by omega) _).alloc (by simp; omega) _).alloc (by simp; omega) _).trans (hB2.mono (by simp; omega))
 clear hB2 bl a0 a1 c0 c1 r0 f0 r1 f1 r2 f2 r3 f3 r4 f4
 go_wp2
 refine bodyPost_ret (v := EffV x y true false false) (by simp [results, Try.results102, go_sem, EffV, q0, q1, q2, q3, q4, s0, s1, s2, s3, s4]) rfl ⟨rfl, ?_⟩
 exact ((((((bl2).setCell (by simp; try omega) _).setCell (by simp; try omega) _).setCell (by simp; try omega) _).setCell (by simp; try omega) _).setCell (by simp; try omega) _).setCell (by simp; try omega) _
theorem pshifted_2a (f : Nat) (a b c d m n x y : Int) (w : World) (C : Com c d 0 7 m n true) (D : Hid (Calc1 2 f a b m n x y)) (hm : (m == c) = false) :
   Calls Try.prog 102 #[.int .i64 2, .func (.func f) #[] #[], .agg #[.int .i64 a, .int .i64 b], .agg #[.int .i64 c, .int .i64 d]] w fun e w' => e = .returned (EffV x y true false true) ∧ Below w.heap.size w w' := by
 go_enter Try.func102, Try.ntmps102
 go_wp2_with fail
 refine (C _).out.mono ?_
 rintro e w1 ⟨rfl, hB⟩
 have z0 : w.heap.size < w1.heap.size := by have := hB.size; simp at this; omega
 have z1 : w.heap.size + 1 < w1.heap.size := by have := hB.size; simp at this; omega
 have z2 : w.heap.size + 1 + 1 < w1.heap.size := by have := hB.size; simp at this; omega
 have a0 : w1.cell? ⟨w.heap.size, 0, none⟩ = some (.int .i64 a) := cell_later hB (by go_simp)
 have a1 : w1.cell? ⟨w.heap.size, 1, none⟩ = some (.int .i64 b) := cell_later hB (by go_simp)
 have c0 : w1.cell? ⟨w.heap.size + 1, 0, none⟩ = some (.int .i64 c) := cell_later hB (by go_simp)
 have c1 : w1.cell? ⟨w.heap.size + 1, 1, none⟩ = some (.int .i64 d) := cell_later hB (by go_simp)
 have r0 : w1.cell? ⟨w.heap.size + 1 + 1, 0, none⟩ = some (.int .i64 0) := cell_later hB (by go_simp)
 have r1 : w1.cell? ⟨w.heap.size + 1 + 1, 1, none⟩ = some (.int .i64 0) := cell_later hB (by go_simp)
 have r2 : w1.cell? ⟨w.heap.size + 1 + 1, 2, none⟩ = some (.bool false) := cell_later hB (by go_simp)
 have r3 : w1.cell? ⟨w.heap.size + 1 + 1, 3, none⟩ = some (.bool false) := cell_later hB (by go_simp)
 have r4 : w1.cell? ⟨w.heap.size + 1 + 1, 4, none⟩ = some (.bool false) := cell_later hB (by go_simp)
 have f0 : w1.frozen? ⟨w.heap.size + 1 + 1, 0, none⟩ = false := keepFr hB (by simp; try omega) (by go_simp)
 have f1 : w1.frozen? ⟨w.heap.size + 1 + 1, 1, none⟩ = false := keepFr hB (by simp; try omega) (by go_simp)
 have f2 : w1.frozen? ⟨w.heap.size + 1 + 1, 2, none⟩ = false := keepFr hB (by simp; try omega) (by go_simp)
 have f3 : w1.frozen? ⟨w.heap.size + 1 + 1, 3, none⟩ = false := keepFr hB (by simp; try omega) (by go_simp)
 have f4 : w1.frozen? ⟨w.heap.size + 1 + 1, 4, none⟩ = false := keepFr hB (by simp; try omega) (by go_simp)
 have bl : Below w.heap.size w w1 := (((((Below.refl _ _).alloc (Nat.le_refl _) _).alloc (by simp) _).alloc (by simp; omega) _).alloc (by simp; omega) _).trans (hB.mono (by simp; omega))
 clear hB
 go_wp2_with fail
 refine (D.out _ _ _ (by simp) (by omega) (by go_simp) (by go_simp) (by go_simp) (by go_simp)).mono ?_
 rintro e w2 ⟨rfl, hB2⟩
 have y0 : w1.heap.size + 1 < w2.heap.size := by have := hB2.size; simp at this; omega
 have y1 : w.heap.size + 1 + 1 < w2.heap.size := by omega
 have y2 : w1.heap.size < w2.heap.size := by omega
 have b0 : w2.cell? ⟨w1.heap.size, 0, none⟩ = some (.int .i64 m) := cell_later hB2 (by go_simp)
 have b1 : w2.cell? ⟨w1.heap.size, 1, none⟩ = some (.int .i64 n) := cell_later hB2 (by go_simp)
 have d0 : w2.cell? ⟨w.heap.size + 1, 0, none⟩ = some (.int .i64 c) := cell_later hB2 (by go_simp)
 have d1 : w2.cell? ⟨w.heap.size + 1, 1, none⟩ = some (.int .i64 d) := cell_later hB2 (by go_simp)
 have q0 : w2.cell? ⟨w.heap.size + 1 + 1, 0, none⟩ = some (.int .i64 0) := cell_later hB2 (by go_simp)
 have q1 : w2.cell? ⟨w.heap.size + 1 + 1, 1, none⟩ = some (.int .i64 0) := cell_later hB2 (by go_simp)
 have q2 : w2.cell? ⟨w.heap.size + 1 + 1, 2, none⟩ = some (.bool false) := cell_later hB2 (by go_simp)
 have q3 : w2.cell? ⟨w.heap.size + 1 + 1, 3, none⟩ = some (.bool false) := cell_later hB2 (by go_simp)
 have q4 : w2.cell? ⟨w.heap.size + 1 + 1, 4, none⟩ = some (.bool false) := cell_later hB2 (by go_simp)
 have s0 : w2.cell? ⟨w1.heap.size + 1, 0, none⟩ = some (.int .i64 0) := cell_later hB2 (by go_simp)
 have s1 : w2.cell? ⟨w1.heap.size + 1, 1, none⟩ = some (.int .i64 0) := cell_later hB2 (by go_simp)
 have s2 : w2.cell? ⟨w1.heap.size + 1, 2, none⟩ = some (.bool false) := cell_later hB2 (by go_simp)
 have s3 : w2.cell? ⟨w1.heap.size + 1, 3, none⟩ = some (.bool false) := cell_later hB2 (by go_simp)
 have s4 : w2.cell? ⟨w1.heap.size + 1, 4, none⟩ = some (.bool false) := cell_later hB2 (by go_simp)
 have g0 : w2.frozen? ⟨w.heap.size + 1 + 1, 0, none⟩ = false := keepFr hB2 (by simp; try omega) (by go_simp)
 have g1 : w2.frozen? ⟨w.heap.size + 1 + 1, 1, none⟩ = false := keepFr hB2 (by simp; try omega) (by go_simp)
 have g2 : w2.frozen? ⟨w.heap.size + 1 + 1, 2, none⟩ = false := keepFr hB2 (by simp; try omega) (by go_simp)
 have g3 : w2.frozen? ⟨w.heap.size + 1 + 1, 3, none⟩ = false := keepFr hB2 (by simp; try omega) (by go_simp)
 have g4 : w2.frozen? ⟨w.heap.size + 1 + 1, 4, none⟩ = false := keepFr hB2 (by simp; try omega) (by go_simp)
 have h0 : w2.frozen? ⟨w1.heap.size + 1, 0, none⟩ = false := keepFr hB2 (by simp; try omega) (by go_simp)
 have h1 : w2.frozen? ⟨w1.heap.size + 1, 1, none⟩ = false := keepFr hB2 (by simp; try omega) (by go_simp)
 have h2 : w2.frozen? ⟨w1.heap.size + 1, 2, none⟩ = false := keepFr hB2 (by simp; try omega) (by go_simp)
 have h3 : w2.frozen? ⟨w1.heap.size + 1, 3, none⟩ = false := keepFr hB2 (by simp; try omega) (by go_simp)
 have h4 : w2.frozen? ⟨w1.heap.size + 1, 4, none⟩ = false := keepFr hB2 (by simp; try omega) (by go_simp)
 have bl2 : Below w.heap.size w w2 := (((bl.alloc (by omega) _).alloc (by simp; omega) _).alloc (by simp; omega) _).trans (hB2.mono (by simp; omega))
 clear hB2 bl a0 a1 c0 c1 r0 f0 r1 f1 r2 f2 r3 f3 r4 f4
 go_wp2
 refine bodyPost_ret (v := EffV x y true false true) (by simp [results, Try.results102, go_sem, EffV, q0, q1, q2, q3, q4, s0, s1, s2, s3, s4]) rfl ⟨rfl, ?_⟩
 exact ((((((((bl2).setCell (by simp; try omega) _).setCell (by simp; try omega) _).setCell (by simp; try omega) _).setCell (by simp; try omega) _).setCell (by simp; try omega) _).setCell (by simp; try omega) _).setCell (by simp; try omega) _).setCell (by simp; try omega) _
theorem pshifted_2b (f : Nat) (a b c d n x y : Int) (w : World) (C : Com c d 0 7 c n true) (D : Hid (Calc1 2 f a b c n x y)) (hn : (n == d) = false) :
   Calls Try.prog 102 #[.int .i64 2, .func (.func f) #[] #[], .agg #[.int .i64 a, .int .i64 b], .agg #[.int .i64 c, .int .i64 d]] w fun e w' => e = .returned (EffV x y true false true) ∧ Below w.heap.size w w' := by
 go_enter Try.func102, Try.ntmps102
 go_wp2_with fail
 refine (C _).out.mono ?_
 rintro e w1 ⟨rfl, hB⟩
 have z0 : w.heap.size < w1.heap.size := by have := hB.size; simp at this; omega
 have z1 : w.heap.size + 1 < w1.heap.size := by have := hB.size; simp at this; omega
 have z2 : w.heap.size + 1 + 1 < w1.heap.size := by have := hB.size; simp at this; omega
 have a0 : w1.cell? ⟨w.heap.size, 0, none⟩ = some (.int .i64 a) := cell_later hB (by go_simp)
 have a1 : w1.cell? ⟨w.heap.size, 1, none⟩ = some (.int .i64 b) := cell_later hB (by go_simp)
 have c0 : w1.cell? ⟨w.heap.size + 1, 0, none⟩ = some (.int .i64 c) := cell_later hB (by go_simp)
 have c1 : w1.cell? ⟨w.heap.size + 1, 1, none⟩ = some (.int .i64 d) := cell_later hB (by go_simp)
 have r0 : w1.cell? ⟨w.heap.size + 1 + 1, 0, none⟩ = some (.int .i64 0) := cell_later hB (by go_simp)
 have r1 : w1.cell? ⟨w.heap.size + 1 + 1, 1, none⟩ = some (.int .i64 0) := cell_later hB (by go_simp)
 have r2 : w1.cell? ⟨w.heap.size + 1 + 1, 2, none⟩ = some (.bool false) := cell_later hB (by go_simp)
 have r3 : w1.cell? ⟨w.heap.size + 1 + 1, 3, none⟩ = some (.bool false) := cell_later hB (by go_simp)
 have r4 : w1.cell? ⟨w.heap.size + 1 + 1, 4, none⟩ = some (.bool false) := cell_later hB (by go_simp)
 have f0 : w1.frozen? ⟨w.heap.size + 1 + 1, 0, none⟩ = false := keepFr hB (by simp; try omega) (by go_simp)
 have f1 : w1.frozen? ⟨w.heap.size + 1 + 1, 1, none⟩ = false := keepFr hB (by simp; try omega) (by go_simp)
 have f2 : w1.frozen? ⟨w.heap.size + 1 + 1, 2, none⟩ = false := keepFr hB (by simp; try omega) (by go_simp)
 have f3 : w1.frozen? ⟨w.heap.size + 1 + 1, 3, none⟩ = false := keepFr hB (by simp; try omega) (by go_simp)
 have f4 : w1.frozen? ⟨w.heap.size + 1 + 1, 4, none⟩ = false := keepFr hB (by simp; try omega) (by go_simp)
 have bl : Below w.heap.size w w1 := (((((Below.refl _ _).alloc (Nat.le_refl _) _).alloc (by simp) _).alloc (by simp; omega) _).alloc (by simp; omega) _).trans (hB.mono (by simp; omega))
 clear hB
 go_wp2_with fail
 refine (D.out _ _ _ (by simp) (by omega) (by go_simp) (by go_simp) (by go_simp) (by go_simp)).mono ?_
 rintro e w2 ⟨rfl, hB2⟩
 have y0 : w1.heap.size + 1 < w2.heap.size := by have := hB2.size; simp at this; omega
 have y1 : w.heap.size + 1 + 1 < w2.heap.size := by omega
 have y2 : w1.heap.size < w2.heap.size := by omega
 have b0 : w2.cell? ⟨w1.heap.size, 0, none⟩ = some (.int .i64 c) := cell_later hB2 (by go_simp)
 have b1 : w2.cell? ⟨w1.heap.size, 1, none⟩ = some (.int .i64 n) := cell_later hB2 (by go_simp)
 have d0 : w2.cell? ⟨w.heap.size + 1, 0, none⟩ = some (.int .i64 c) := cell_later hB2 (by go_simp)
 have d1 : w2.cell? ⟨w.heap.size + 1, 1, none⟩ = some (.int .i64 d) := cell_later hB2 (by go_simp)
 have q0 : w2.cell? ⟨w.heap.size + 1 + 1, 0, none⟩ = some (.int .i64 0) := cell_later hB2 (by go_simp)
 have q1 : w2.cell? ⟨w.heap.size + 1 + 1, 1, none⟩ = some (.int .i64 0) := cell_later hB2 (by go_simp)
 have q2 : w2.cell? ⟨w.heap.size + 1 + 1, 2, none⟩ = some (.bool false) := cell_later hB2 (by go_simp)
 have q3 : w2.cell? ⟨w.heap.size + 1 + 1, 3, none⟩ = some (.bool false) := cell_later hB2 (by go_simp)
 have q4 : w2.cell? ⟨w.heap.size + 1 + 1, 4, none⟩ = some (.bool false) := cell_later hB2 (by go_simp)
 have s0 : w2.cell? ⟨w1.heap.size + 1, 0, none⟩ = some (.int .i64 0) := cell_later hB2 (by go_simp)
 have s1 : w2.cell? ⟨w1.heap.size + 1, 1, none⟩ = some (.int .i64 0) := cell_later hB2 (by go_simp)
 have s2 : w2.cell? ⟨w1.heap.size + 1, 2, none⟩ = some (.bool false) := cell_later hB2 (by go_simp)
 have s3 : w2.cell? ⟨w1.heap.size + 1, 3, none⟩ = some (.bool false) := cell_later hB2 (by go_simp)
 have s4 : w2.cell? ⟨w1.heap.size + 1, 4, none⟩ = some (.bool false) := cell_later hB2 (by go_simp)
 have g0 : w2.frozen? ⟨w.heap.size + 1 + 1, 0, none⟩ = false := keepFr hB2 (by simp; try omega) (by go_simp)
 have g1 : w2.frozen? ⟨w.heap.size + 1 + 1, 1, none⟩ = false := keepFr hB2 (by simp; try omega) (by go_simp)
 have g2 : w2.frozen? ⟨w.heap.size + 1 + 1, 2, none⟩ = false := keepFr hB2 (by simp; try omega) (by go_simp)
 have g3 : w2.frozen? ⟨w.heap.size + 1 + 1, 3, none⟩ = false := keepFr hB2 (by simp; try omega) (by go_simp)
 have g4 : w2.frozen? ⟨w.heap.size + 1 + 1, 4, none⟩ = false := keepFr hB2 (by simp; try omega) (by go_simp)
 have h0 : w2.frozen? ⟨w1.heap.size + 1, 0, none⟩ = false := keepFr hB2 (by simp; try omega) (by go_simp)
 have h1 : w2.frozen? ⟨w1.heap.size + 1, 1, none⟩ = false := keepFr hB2 (by simp; try omega) (by go_simp)
 have h2 : w2.frozen? ⟨w1.heap.size + 1, 2, none⟩ = false := keepFr hB2 (by simp; try omega) (by go_simp)
 have h3 : w2.frozen? ⟨w1.heap.size + 1, 3, none⟩ = false := keepFr hB2 (by simp; try omega) (by go_simp)
 have h4 : w2.frozen? ⟨w1.heap.size + 1, 4, none⟩ = false := keepFr hB2 (by simp; try omega) (by go_simp)
 have bl2 : Below w.heap.size w w2 := (((bl.alloc (by omega) _).alloc (by simp; omega) _).alloc (by simp; omega) _).trans (hB2.mono (by simp; omega))
 clear hB2 bl a0 a1 c0 c1 r0 f0 r1 f1 r2 f2 r3 f3 r4 f4
 go_wp2
 refine bodyPost_ret (v := EffV x y true false true) (by simp [results, Try.results102, go_sem, EffV, q0, q1, q2, q3, q4, s0, s1, s2, s3, s4]) rfl ⟨rfl, ?_⟩
 exact ((((((((bl2).setCell (by simp; try omega) _).setCell (by simp; try omega) _).setCell (by simp; try omega) _).setCell (by simp; try omega) _).setCell (by simp; try omega) _).setCell (by simp; try omega) _).setCell (by simp; try omega) _).setCell (by simp; try omega) _
theorem pshifted_2c (f : Nat) (a b c d x y : Int) (w : World) (C : Com c d 0 7 c d true) (D : Hid (Calc1 2 f a b c d x y))  :
   Calls Try.prog 102 #[.int .i64 2, .func (.func f) #[] #[], .agg #[.int .i64 a, .int .i64 b], .agg #[.int .i64 c, .int .i64 d]] w fun e w' => e = .returned (EffV x y true false false) ∧ Below w.heap.size w w' := by
 go_enter Try.func102, Try.ntmps102
 go_wp2_with fail
 refine (C _).out.mono ?_
 rintro e w1 ⟨rfl, hB⟩
 have z0 : w.heap.size < w1.heap.size := by have := hB.size; simp at this; omega
 have z1 : w.heap.size + 1 < w1.heap.size := by have := hB.size; simp at this; omega
 have z2 : w.heap.size + 1 + 1 < w1.heap.size := by have := hB.size; simp at this; omega
 have a0 : w1.cell? ⟨w.heap.size, 0, none⟩ = some (.int .i64 a) := cell_later hB (by go_simp)
 have a1 : w1.cell? ⟨w.heap.size, 1, none⟩ = some (.int .i64 b) := cell_later hB (by go_simp)
 have c0 : w1.cell? ⟨w.heap.size + 1, 0, none⟩ = some (.int .i64 c) := cell_later hB (by go_simp)
 have c1 : w1.cell? ⟨w.heap.size + 1, 1, none⟩ = some (.int .i64 d) := cell_later hB (by go_simp)
 have r0 : w1.cell? ⟨w.heap.size + 1 + 1, 0, none⟩ = some (.int .i64 0) := cell_later hB (by go_simp)
 have r1 : w1.cell? ⟨w.heap.size + 1 + 1, 1, none⟩ = some (.int .i64 0) := cell_later hB (by go_simp)
 have r2 : w1.cell? ⟨w.heap.size + 1 + 1, 2, none⟩ = some (.bool false) := cell_later hB (by go_simp)
 have r3 : w1.cell? ⟨w.heap.size + 1 + 1, 3, none⟩ = some (.bool false) := cell_later hB (by go_simp)
 have r4 : w1.cell? ⟨w.heap.size + 1 + 1, 4, none⟩ = some (.bool false) := cell_later hB (by go_simp)
 have f0 : w1.frozen? ⟨w.heap.size + 1 + 1, 0, none⟩ = false := keepFr hB (by simp; try omega) (by go_simp)
 have f1 : w1.frozen? ⟨w.heap.size + 1 + 1, 1, none⟩ = false := keepFr hB (by simp; try omega) (by go_simp)
 have f2 : w1.frozen? ⟨w.heap.size + 1 + 1, 2, none⟩ = false := keepFr hB (by simp; try omega) (by go_simp)
 have f3 : w1.frozen? ⟨w.heap.size + 1 + 1, 3, none⟩ = false := keepFr hB (by simp; try omega) (by go_simp)
 have f4 : w1.frozen? ⟨w.heap.size + 1 + 1, 4, none⟩ = false := keepFr hB (by simp; try omega) (by go_simp)
 have bl : Below w.heap.size w w1 := (((((Below.refl _ _).alloc (Nat.le_refl _) _).alloc (by simp) _).alloc (by simp; omega) _).alloc (by simp; omega) _).trans (hB.mono (by simp; omega))
 clear hB
 go_wp2_with fail
 refine (D.out _ _ _ (by simp) (by omega) (by go_simp) (by go_simp) (by go_simp) (by go_simp)).mono ?_
 rintro e w2 ⟨rfl, hB2⟩
 have y0 : w1.heap.size + 1 < w2.heap.size := by have := hB2.size; simp at this; omega
 have y1 : w.heap.size + 1 + 1 < w2.heap.size := by omega
 have y2 : w1.heap.size < w2.heap.size := by omega
 have b0 : w2.cell? ⟨w1.heap.size, 0, none⟩ = some (.int .i64 c) := cell_later hB2 (by go_simp)
 have b1 : w2.cell? ⟨w1.heap.size, 1, none⟩ = some (.int .i64 d) := cell_later hB2 (by go_simp)
 have d0 : w2.cell? ⟨w.heap.size + 1, 0, none⟩ = some (.int .i64 c) := cell_later hB2 (by go_simp)
 have d1 : w2.cell? ⟨w.heap.size + 1, 1, none⟩ = some (.int .i64 d) := cell_later hB2 (by go_simp)
 have q0 : w2.cell? ⟨w.heap.size + 1 + 1, 0, none⟩ = some (.int .i64 0) := cell_later hB2 (by go_simp)
 have q1 : w2.cell? ⟨w.heap.size + 1 + 1, 1, none⟩ = some (.int .i64 0) := cell_later hB2 (by go_simp)
 have q2 : w2.cell? ⟨w.heap.size + 1 + 1, 2, none⟩ = some (.bool false) := cell_later hB2 (by go_simp)
 have q3 : w2.cell? ⟨w.heap.size + 1 + 1, 3, none⟩ = some (.bool false) := cell_later hB2 (by go_simp)
 have q4 : w2.cell? ⟨w.heap.size + 1 + 1, 4, none⟩ = some (.bool false) := cell_later hB2 (by go_simp)
 have s0 : w2.cell? ⟨w1.heap.size + 1, 0, none⟩ = some (.int .i64 0) := cell_later hB2 (by go_simp)
 have s1 : w2.cell? ⟨w1.heap.size + 1, 1, none⟩ = some (.int .i64 0) := cell_later hB2 (by go_simp)
 have s2 : w2.cell? ⟨w1.heap.size + 1, 2, none⟩ = some (.bool false) := cell_later hB2 (by go_simp)
 have s3 : w2.cell? ⟨w1.heap.size + 1, 3, none⟩ = some (.bool false) := cell_later hB2 (by go_simp)
 have s4 : w2.cell? ⟨w1.heap.size + 1, 4, none⟩ = some (.bool false) := cell_later hB2 (by go_simp)
 have g0 : w2.frozen? ⟨w.heap.size + 1 + 1, 0, none⟩ = false := keepFr hB2 (by simp; try omega) (by go_simp)
 have g1 : w2.frozen? ⟨w.heap.size + 1 + 1, 1, none⟩ = false := keepFr hB2 (by simp; try omega) (by go_simp)
 have g2 : w2.frozen? ⟨w.heap.size + 1 + 1, 2, none⟩ = false := keepFr hB2 (by simp; try omega) (by go_simp)
 have g3 : w2.frozen? ⟨w.heap.size + 1 + 1, 3, none⟩ = false := keepFr hB2 (by simp; try omega) (by go_simp)
 have g4 : w2.frozen? ⟨w.heap.size + 1 + 1, 4, none⟩ = false := keepFr hB2 (by simp; try omega) (by go_simp)
 have h0 : w2.frozen? ⟨w1.heap.size + 1, 0, none⟩ = false := keepFr hB2 (by simp; try omega) (by go_simp)
 have h1 : w2.frozen? ⟨w1.heap.size + 1, 1, none⟩ = false := keepFr hB2 (by simp; try omega) (by go_simp)
 have h2 : w2.frozen? ⟨w1.heap.size + 1, 2, none⟩ = false := keepFr hB2 (by simp; try omega) (by go_simp)
 have h3 : w2.frozen? ⟨w1.heap.size + 1, 3, none⟩ = false := keepFr hB2 (by simp; try omega) (by go_simp)
 have h4 : w2.frozen? ⟨w1.heap.size + 1, 4, none⟩ = false := keepFr hB2 (by simp; try omega) (by go_simp)
 have bl2 : Below w.heap.size w w2 := (((bl.alloc (by omega) _).alloc (by simp; omega) _).alloc (by simp; omega) _).trans (hB2.mono (by simp; omega))
 clear hB2 bl a0 a1 c0 c1 r0 f0 r1 f1 r2 f2 r3 f3 r4 f4
 go_wp2
 refine bodyPost_ret (v := EffV x y true false false) (by simp [results, Try.results102, go_sem, EffV, q0, q1, q2, q3, q4, s0, s1, s2, s3, s4]) rfl ⟨rfl, ?_⟩
 exact ((((((bl2).setCell (by simp; try omega) _).setCell (by simp; try omega) _).setCell (by simp; try omega) _).setCell (by simp; try omega) _).setCell (by simp; try omega) _).setCell (by simp; try omega) _
end Go.Proofs.Ytgkhldbnljdeiaa
