/- compared of layer 4: the operator that it makes of what a comparison leaves, and of what its opposite leaves. -/
import Derived.Test.YtgkhldbnljdeiaaQRngZUToRngZV
set_option maxRecDepth 100000
set_option maxHeartbeats 4000000
set_option linter.unusedSimpArgs false
set_option linter.unusedVariables false
namespace Go.Proofs.Ytgkhldbnljdeiaa
open Go.RowKit RangesMath
attribute [local go_sem] World.setCell_self
/-- A narrowing's answer. -/
def Narrows (f : Nat) (a b c d x0 x1 y0 y1 : Int) (p : Bool) : Prop := ∀ w, Hid (Calls Try.prog f #[.agg #[.int .i64 a, .int .i64 b], .agg #[.int .i64 c, .int .i64 d]] w fun e w' => e = .returned (.tuple #[.agg #[.int .i64 x0, .int .i64 x1], .agg #[.int .i64 y0, .int .i64 y1], .bool p]) ∧ Below w.heap.size w w')
theorem pcmp_tt (a b c d x0 x1 y0 y1 u0 u1 v0 v1 : Int) (f g p q : Nat) (w : World) (hpl : p < w.heap.size) (hql : q < w.heap.size) (hp : w.cell? ⟨p, 0, none⟩ = some (.func (.func f) #[] #[])) (hq : w.cell? ⟨q, 0, none⟩ = some (.func (.func g) #[] #[]))
   (ef : ∀ args w, (callFunc f args).run Try.prog w = .ok (.enter f args) w) (eg : ∀ args w, (callFunc g args).run Try.prog w = .ok (.enter g args) w) (F : Narrows f a b c d x0 x1 y0 y1 true) (G : Narrows g a b c d u0 u1 v0 v1 true) (SR : Sure 0 1) :
   Calls Try.prog 80 #[.agg #[.int .i64 a, .int .i64 b], .agg #[.int .i64 c, .int .i64 d], .pointer (some ⟨p, 0, none⟩), .pointer (some ⟨q, 0, none⟩)] w fun e w' => e = .returned (EffV 0 1 true false false) ∧ Below w.heap.size w w' := by
 have hp4 : ∀ o1 o2 o3 o4, ((((w.alloc o1).alloc o2).alloc o3).alloc o4).cell? ⟨p, 0, none⟩ = some (.func (.func f) #[] #[]) := by
   intro o1 o2 o3 o4
   rw [(((((Below.refl w.heap.size w).alloc (Nat.le_refl _) o1).alloc (by simp) o2).alloc (by simp; omega) o3).alloc (by simp; omega) o4).cell (p := ⟨p, 0, none⟩) hpl]
   exact hp
 have hq4 : ∀ o1 o2 o3 o4, ((((w.alloc o1).alloc o2).alloc o3).alloc o4).cell? ⟨q, 0, none⟩ = some (.func (.func g) #[] #[]) := by
   intro o1 o2 o3 o4
   rw [(((((Below.refl w.heap.size w).alloc (Nat.le_refl _) o1).alloc (by simp) o2).alloc (by simp; omega) o3).alloc (by simp; omega) o4).cell (p := ⟨q, 0, none⟩) hql]
   exact hq
 clear hp hq
 go_enter Try.func80, Try.ntmps80
 go_wp2_with fail
 refine (F _).out.mono ?_
 rintro e1 w1 ⟨rfl, hB1⟩
 have z3_1 : w.heap.size + 1 + 1 + 1 < w1.heap.size := by have := hB1.size; simp at this; omega
 have bl1 : Below w.heap.size w w1 := (((((Below.refl _ _).alloc (Nat.le_refl _) _).alloc (by simp) _).alloc (by simp; omega) _).alloc (by simp; omega) _).trans (hB1.mono (by first | omega | (simp; omega) | (simp [World.setCell]; omega) | simp))
 have z2_1 : w.heap.size + 1 + 1 < w1.heap.size := by omega
 have z0_1 : w.heap.size < w1.heap.size := by omega
 have z1_1 : w.heap.size + 1 < w1.heap.size := by omega
 have zp_1 : p < w1.heap.size := by omega
 have zq_1 : q < w1.heap.size := by omega
 have a0_1 : w1.cell? ⟨w.heap.size, 0, none⟩ = some (.int .i64 a) := cell_later hB1 (by go_simp)
 have a1_1 : w1.cell? ⟨w.heap.size, 1, none⟩ = some (.int .i64 b) := cell_later hB1 (by go_simp)
 have c0_1 : w1.cell? ⟨w.heap.size + 1, 0, none⟩ = some (.int .i64 c) := cell_later hB1 (by go_simp)
 have c1_1 : w1.cell? ⟨w.heap.size + 1, 1, none⟩ = some (.int .i64 d) := cell_later hB1 (by go_simp)
 have r0_1 : w1.cell? ⟨w.heap.size + 1 + 1, 0, none⟩ = some (.int .i64 0) := cell_later hB1 (by go_simp)
 have r1_1 : w1.cell? ⟨w.heap.size + 1 + 1, 1, none⟩ = some (.int .i64 0) := cell_later hB1 (by go_simp)
 have r2_1 : w1.cell? ⟨w.heap.size + 1 + 1, 2, none⟩ = some (.bool false) := cell_later hB1 (by go_simp)
 have r3_1 : w1.cell? ⟨w.heap.size + 1 + 1, 3, none⟩ = some (.bool false) := cell_later hB1 (by go_simp)
 have r4_1 : w1.cell? ⟨w.heap.size + 1 + 1, 4, none⟩ = some (.bool false) := cell_later hB1 (by go_simp)
 have u0_1 : w1.cell? ⟨w.heap.size + 1 + 1 + 1, 0, none⟩ = some (.int .i64 0) := cell_later hB1 (by go_simp)
 have u1_1 : w1.cell? ⟨w.heap.size + 1 + 1 + 1, 1, none⟩ = some (.int .i64 1) := cell_later hB1 (by go_simp)
 have kp_1 : w1.cell? ⟨p, 0, none⟩ = some (.func (.func f) #[] #[]) := cell_later hB1 (by go_simp)
 have kq_1 : w1.cell? ⟨q, 0, none⟩ = some (.func (.func g) #[] #[]) := cell_later hB1 (by go_simp)
 have f0_1 : w1.frozen? ⟨w.heap.size + 1 + 1, 0, none⟩ = false := keepFr hB1 (by first | omega | (simp; omega) | simp) (by go_simp)
 have f1_1 : w1.frozen? ⟨w.heap.size + 1 + 1, 1, none⟩ = false := keepFr hB1 (by first | omega | (simp; omega) | simp) (by go_simp)
 have f2_1 : w1.frozen? ⟨w.heap.size + 1 + 1, 2, none⟩ = false := keepFr hB1 (by first | omega | (simp; omega) | simp) (by go_simp)
 have f3_1 : w1.frozen? ⟨w.heap.size + 1 + 1, 3, none⟩ = false := keepFr hB1 (by first | omega | (simp; omega) | simp) (by go_simp)
 have f4_1 : w1.frozen? ⟨w.heap.size + 1 + 1, 4, none⟩ = false := keepFr hB1 (by first | omega | (simp; omega) | simp) (by go_simp)
 have g0_1 : w1.frozen? ⟨w.heap.size + 1 + 1 + 1, 0, none⟩ = false := keepFr hB1 (by first | omega | (simp; omega) | simp) (by go_simp)
 have g1_1 : w1.frozen? ⟨w.heap.size + 1 + 1 + 1, 1, none⟩ = false := keepFr hB1 (by first | omega | (simp; omega) | simp) (by go_simp)
 clear hB1
 go_wp2_with fail
 refine (G _).out.mono ?_
 rintro e2 w2 ⟨rfl, hB2⟩
 have z3_2 : w.heap.size + 1 + 1 + 1 < w2.heap.size := by have := hB2.size; simp at this; omega
 have bl2 : Below w.heap.size w w2 := (((bl1).alloc (by first | omega | (simp; omega) | (simp [World.setCell]; omega) | simp) _).alloc (by first | omega | (simp; omega) | (simp [World.setCell]; omega) | simp) _).trans (hB2.mono (by first | omega | (simp; omega) | (simp [World.setCell]; omega) | simp))
 have z2_2 : w.heap.size + 1 + 1 < w2.heap.size := by omega
 have z0_2 : w.heap.size < w2.heap.size := by omega
 have z1_2 : w.heap.size + 1 < w2.heap.size := by omega
 have zp_2 : p < w2.heap.size := by omega
 have zq_2 : q < w2.heap.size := by omega
 have a0_2 : w2.cell? ⟨w.heap.size, 0, none⟩ = some (.int .i64 a) := cell_later hB2 (by go_simp)
 have a1_2 : w2.cell? ⟨w.heap.size, 1, none⟩ = some (.int .i64 b) := cell_later hB2 (by go_simp)
 have c0_2 : w2.cell? ⟨w.heap.size + 1, 0, none⟩ = some (.int .i64 c) := cell_later hB2 (by go_simp)
 have c1_2 : w2.cell? ⟨w.heap.size + 1, 1, none⟩ = some (.int .i64 d) := cell_later hB2 (by go_simp)
 have r0_2 : w2.cell? ⟨w.heap.size + 1 + 1, 0, none⟩ = some (.int .i64 0) := cell_later hB2 (by go_simp)
 have r1_2 : w2.cell? ⟨w.heap.size + 1 + 1, 1, none⟩ = some (.int .i64 0) := cell_later hB2 (by go_simp)
 have r2_2 : w2.cell? ⟨w.heap.size + 1 + 1, 2, none⟩ = some (.bool false) := cell_later hB2 (by go_simp)
 have r3_2 : w2.cell? ⟨w.heap.size + 1 + 1, 3, none⟩ = some (.bool false) := cell_later hB2 (by go_simp)
 have r4_2 : w2.cell? ⟨w.heap.size + 1 + 1, 4, none⟩ = some (.bool false) := cell_later hB2 (by go_simp)
 have u0_2 : w2.cell? ⟨w.heap.size + 1 + 1 + 1, 0, none⟩ = some (.int .i64 0) := cell_later hB2 (by go_simp)
 have u1_2 : w2.cell? ⟨w.heap.size + 1 + 1 + 1, 1, none⟩ = some (.int .i64 1) := cell_later hB2 (by go_simp)
 have kp_2 : w2.cell? ⟨p, 0, none⟩ = some (.func (.func f) #[] #[]) := cell_later hB2 (by go_simp)
 have kq_2 : w2.cell? ⟨q, 0, none⟩ = some (.func (.func g) #[] #[]) := cell_later hB2 (by go_simp)
 have f0_2 : w2.frozen? ⟨w.heap.size + 1 + 1, 0, none⟩ = false := keepFr hB2 (by first | omega | (simp; omega) | simp) (by go_simp)
 have f1_2 : w2.frozen? ⟨w.heap.size + 1 + 1, 1, none⟩ = false := keepFr hB2 (by first | omega | (simp; omega) | simp) (by go_simp)
 have f2_2 : w2.frozen? ⟨w.heap.size + 1 + 1, 2, none⟩ = false := keepFr hB2 (by first | omega | (simp; omega) | simp) (by go_simp)
 have f3_2 : w2.frozen? ⟨w.heap.size + 1 + 1, 3, none⟩ = false := keepFr hB2 (by first | omega | (simp; omega) | simp) (by go_simp)
 have f4_2 : w2.frozen? ⟨w.heap.size + 1 + 1, 4, none⟩ = false := keepFr hB2 (by first | omega | (simp; omega) | simp) (by go_simp)
 have g0_2 : w2.frozen? ⟨w.heap.size + 1 + 1 + 1, 0, none⟩ = false := keepFr hB2 (by first | omega | (simp; omega) | simp) (by go_simp)
 have g1_2 : w2.frozen? ⟨w.heap.size + 1 + 1 + 1, 1, none⟩ = false := keepFr hB2 (by first | omega | (simp; omega) | simp) (by go_simp)
 clear hB2 bl1 z0_1 z1_1 z2_1 z3_1 zp_1 zq_1 a0_1 a1_1 c0_1 c1_1 u0_1 u1_1 kp_1 kq_1 g0_1 g1_1 r0_1 r1_1 r2_1 r3_1 r4_1 f0_1 f1_1 f2_1 f3_1 f4_1
 go_wp2_with fail
 refine (SR _).out.mono ?_
 rintro e3 w3 ⟨rfl, hB3⟩
 have z3_3 : w.heap.size + 1 + 1 + 1 < w3.heap.size := by have := hB3.size; simp at this; omega
 have bl3 : Below w.heap.size w w3 := (((bl2).alloc (by first | omega | (simp; omega) | (simp [World.setCell]; omega) | simp) _).alloc (by first | omega | (simp; omega) | (simp [World.setCell]; omega) | simp) _).trans (hB3.mono (by first | omega | (simp; omega) | (simp [World.setCell]; omega) | simp))
 have z2_3 : w.heap.size + 1 + 1 < w3.heap.size := by omega
 have z0_3 : w.heap.size < w3.heap.size := by omega
 have z1_3 : w.heap.size + 1 < w3.heap.size := by omega
 have zp_3 : p < w3.heap.size := by omega
 have zq_3 : q < w3.heap.size := by omega
 have a0_3 : w3.cell? ⟨w.heap.size, 0, none⟩ = some (.int .i64 a) := cell_later hB3 (by go_simp)
 have a1_3 : w3.cell? ⟨w.heap.size, 1, none⟩ = some (.int .i64 b) := cell_later hB3 (by go_simp)
 have c0_3 : w3.cell? ⟨w.heap.size + 1, 0, none⟩ = some (.int .i64 c) := cell_later hB3 (by go_simp)
 have c1_3 : w3.cell? ⟨w.heap.size + 1, 1, none⟩ = some (.int .i64 d) := cell_later hB3 (by go_simp)
 have r0_3 : w3.cell? ⟨w.heap.size + 1 + 1, 0, none⟩ = some (.int .i64 0) := cell_later hB3 (by go_simp)
 have r1_3 : w3.cell? ⟨w.heap.size + 1 + 1, 1, none⟩ = some (.int .i64 0) := cell_later hB3 (by go_simp)
 have r2_3 : w3.cell? ⟨w.heap.size + 1 + 1, 2, none⟩ = some (.bool false) := cell_later hB3 (by go_simp)
 have r3_3 : w3.cell? ⟨w.heap.size + 1 + 1, 3, none⟩ = some (.bool false) := cell_later hB3 (by go_simp)
 have r4_3 : w3.cell? ⟨w.heap.size + 1 + 1, 4, none⟩ = some (.bool false) := cell_later hB3 (by go_simp)
 have u0_3 : w3.cell? ⟨w.heap.size + 1 + 1 + 1, 0, none⟩ = some (.int .i64 0) := cell_later hB3 (by go_simp)
 have u1_3 : w3.cell? ⟨w.heap.size + 1 + 1 + 1, 1, none⟩ = some (.int .i64 1) := cell_later hB3 (by go_simp)
 have kp_3 : w3.cell? ⟨p, 0, none⟩ = some (.func (.func f) #[] #[]) := cell_later hB3 (by go_simp)
 have kq_3 : w3.cell? ⟨q, 0, none⟩ = some (.func (.func g) #[] #[]) := cell_later hB3 (by go_simp)
 have f0_3 : w3.frozen? ⟨w.heap.size + 1 + 1, 0, none⟩ = false := keepFr hB3 (by first | omega | (simp; omega) | simp) (by go_simp)
 have f1_3 : w3.frozen? ⟨w.heap.size + 1 + 1, 1, none⟩ = false := keepFr hB3 (by first | omega | (simp; omega) | simp) (by go_simp)
 have f2_3 : w3.frozen? ⟨w.heap.size + 1 + 1, 2, none⟩ = false := keepFr hB3 (by first | omega | (simp; omega) | simp) (by go_simp)
 have f3_3 : w3.frozen? ⟨w.heap.size + 1 + 1, 3, none⟩ = false := keepFr hB3 (by first | omega | (simp; omega) | simp) (by go_simp)
 have f4_3 : w3.frozen? ⟨w.heap.size + 1 + 1, 4, none⟩ = false := keepFr hB3 (by first | omega | (simp; omega) | simp) (by go_simp)
 have g0_3 : w3.frozen? ⟨w.heap.size + 1 + 1 + 1, 0, none⟩ = false := keepFr hB3 (by first | omega | (simp; omega) | simp) (by go_simp)
 have g1_3 : w3.frozen? ⟨w.heap.size + 1 + 1 + 1, 1, none⟩ = false := keepFr hB3 (by first | omega | (simp; omega) | simp) (by go_simp)
 clear hB3 bl2 z0_2 z1_2 z2_2 z3_2 zp_2 zq_2 a0_2 a1_2 c0_2 c1_2 u0_2 u1_2 kp_2 kq_2 g0_2 g1_2 r0_2 r1_2 r2_2 r3_2 r4_2 f0_2 f1_2 f2_2 f3_2 f4_2
 go_wp2
 refine bodyPost_ret (v := EffV 0 1 true false false) (by simp [results, Try.results80, go_sem, r0_3, r1_3, r2_3, r3_3, r4_3, EffV]) rfl ⟨rfl, ?_⟩
 exact ((bl3).setCell (by simp; try omega) _).setCell (by simp; try omega) _
theorem pcmp_tf (a b c d x0 x1 y0 y1 u0 u1 v0 v1 : Int) (f g p q : Nat) (w : World) (hpl : p < w.heap.size) (hql : q < w.heap.size) (hp : w.cell? ⟨p, 0, none⟩ = some (.func (.func f) #[] #[])) (hq : w.cell? ⟨q, 0, none⟩ = some (.func (.func g) #[] #[]))
   (ef : ∀ args w, (callFunc f args).run Try.prog w = .ok (.enter f args) w) (eg : ∀ args w, (callFunc g args).run Try.prog w = .ok (.enter g args) w) (F : Narrows f a b c d x0 x1 y0 y1 true) (G : Narrows g a b c d u0 u1 v0 v1 false) (SR : Sure 1 1) :
   Calls Try.prog 80 #[.agg #[.int .i64 a, .int .i64 b], .agg #[.int .i64 c, .int .i64 d], .pointer (some ⟨p, 0, none⟩), .pointer (some ⟨q, 0, none⟩)] w fun e w' => e = .returned (EffV 1 1 true false false) ∧ Below w.heap.size w w' := by
 have hp4 : ∀ o1 o2 o3 o4, ((((w.alloc o1).alloc o2).alloc o3).alloc o4).cell? ⟨p, 0, none⟩ = some (.func (.func f) #[] #[]) := by
   intro o1 o2 o3 o4
   rw [(((((Below.refl w.heap.size w).alloc (Nat.le_refl _) o1).alloc (by simp) o2).alloc (by simp; omega) o3).alloc (by simp; omega) o4).cell (p := ⟨p, 0, none⟩) hpl]
   exact hp
 have hq4 : ∀ o1 o2 o3 o4, ((((w.alloc o1).alloc o2).alloc o3).alloc o4).cell? ⟨q, 0, none⟩ = some (.func (.func g) #[] #[]) := by
   intro o1 o2 o3 o4
   rw [(((((Below.refl w.heap.size w).alloc (Nat.le_refl _) o1).alloc (by simp) o2).alloc (by simp; omega) o3).alloc (by simp; omega) o4).cell (p := ⟨q, 0, none⟩) hql]
   exact hq
 clear hp hq
 go_enter Try.func80, Try.ntmps80
 go_wp2_with fail
 refine (F _).out.mono ?_
 rintro e1 w1 ⟨rfl, hB1⟩
 have z3_1 : w.heap.size + 1 + 1 + 1 < w1.heap.size := by have := hB1.size; simp at this; omega
 have bl1 : Below w.heap.size w w1 := (((((Below.refl _ _).alloc (Nat.le_refl _) _).alloc (by simp) _).alloc (by simp; omega) _).alloc (by simp; omega) _).trans (hB1.mono (by first | omega | (simp; omega) | (simp [World.setCell]; omega) | simp))
 have z2_1 : w.heap.size + 1 + 1 < w1.heap.size := by omega
 have z0_1 : w.heap.size < w1.heap.size := by omega
 have z1_1 : w.heap.size + 1 < w1.heap.size := by omega
 have zp_1 : p < w1.heap.size := by omega
 have zq_1 : q < w1.heap.size := by omega
 have a0_1 : w1.cell? ⟨w.heap.size, 0, none⟩ = some (.int .i64 a) := cell_later hB1 (by go_simp)
 have a1_1 : w1.cell? ⟨w.heap.size, 1, none⟩ = some (.int .i64 b) := cell_later hB1 (by go_simp)
 have c0_1 : w1.cell? ⟨w.heap.size + 1, 0, none⟩ = some (.int .i64 c) := cell_later hB1 (by go_simp)
 have c1_1 : w1.cell? ⟨w.heap.size + 1, 1, none⟩ = some (.int .i64 d) := cell_later hB1 (by go_simp)
 have r0_1 : w1.cell? ⟨w.heap.size + 1 + 1, 0, none⟩ = some (.int .i64 0) := cell_later hB1 (by go_simp)
 have r1_1 : w1.cell? ⟨w.heap.size + 1 + 1, 1, none⟩ = some (.int .i64 0) := cell_later hB1 (by go_simp)
 have r2_1 : w1.cell? ⟨w.heap.size + 1 + 1, 2, none⟩ = some (.bool false) := cell_later hB1 (by go_simp)
 have r3_1 : w1.cell? ⟨w.heap.size + 1 + 1, 3, none⟩ = some (.bool false) := cell_later hB1 (by go_simp)
 have r4_1 : w1.cell? ⟨w.heap.size + 1 + 1, 4, none⟩ = some (.bool false) := cell_later hB1 (by go_simp)
 have u0_1 : w1.cell? ⟨w.heap.size + 1 + 1 + 1, 0, none⟩ = some (.int .i64 0) := cell_later hB1 (by go_simp)
 have u1_1 : w1.cell? ⟨w.heap.size + 1 + 1 + 1, 1, none⟩ = some (.int .i64 1) := cell_later hB1 (by go_simp)
 have kp_1 : w1.cell? ⟨p, 0, none⟩ = some (.func (.func f) #[] #[]) := cell_later hB1 (by go_simp)
 have kq_1 : w1.cell? ⟨q, 0, none⟩ = some (.func (.func g) #[] #[]) := cell_later hB1 (by go_simp)
 have f0_1 : w1.frozen? ⟨w.heap.size + 1 + 1, 0, none⟩ = false := keepFr hB1 (by first | omega | (simp; omega) | simp) (by go_simp)
 have f1_1 : w1.frozen? ⟨w.heap.size + 1 + 1, 1, none⟩ = false := keepFr hB1 (by first | omega | (simp; omega) | simp) (by go_simp)
 have f2_1 : w1.frozen? ⟨w.heap.size + 1 + 1, 2, none⟩ = false := keepFr hB1 (by first | omega | (simp; omega) | simp) (by go_simp)
 have f3_1 : w1.frozen? ⟨w.heap.size + 1 + 1, 3, none⟩ = false := keepFr hB1 (by first | omega | (simp; omega) | simp) (by go_simp)
 have f4_1 : w1.frozen? ⟨w.heap.size + 1 + 1, 4, none⟩ = false := keepFr hB1 (by first | omega | (simp; omega) | simp) (by go_simp)
 have g0_1 : w1.frozen? ⟨w.heap.size + 1 + 1 + 1, 0, none⟩ = false := keepFr hB1 (by first | omega | (simp; omega) | simp) (by go_simp)
 have g1_1 : w1.frozen? ⟨w.heap.size + 1 + 1 + 1, 1, none⟩ = false := keepFr hB1 (by first | omega | (simp; omega) | simp) (by go_simp)
 clear hB1
 go_wp2_with fail
 refine (G _).out.mono ?_
 rintro e2 w2 ⟨rfl, hB2⟩
 have z3_2 : w.heap.size + 1 + 1 + 1 < w2.heap.size := by have := hB2.size; simp at this; omega
 have bl2 : Below w.heap.size w w2 := (((bl1).alloc (by first | omega | (simp; omega) | (simp [World.setCell]; omega) | simp) _).alloc (by first | omega | (simp; omega) | (simp [World.setCell]; omega) | simp) _).trans (hB2.mono (by first | omega | (simp; omega) | (simp [World.setCell]; omega) | simp))
 have z2_2 : w.heap.size + 1 + 1 < w2.heap.size := by omega
 have z0_2 : w.heap.size < w2.heap.size := by omega
 have z1_2 : w.heap.size + 1 < w2.heap.size := by omega
 have zp_2 : p < w2.heap.size := by omega
 have zq_2 : q < w2.heap.size := by omega
 have a0_2 : w2.cell? ⟨w.heap.size, 0, none⟩ = some (.int .i64 a) := cell_later hB2 (by go_simp)
 have a1_2 : w2.cell? ⟨w.heap.size, 1, none⟩ = some (.int .i64 b) := cell_later hB2 (by go_simp)
 have c0_2 : w2.cell? ⟨w.heap.size + 1, 0, none⟩ = some (.int .i64 c) := cell_later hB2 (by go_simp)
 have c1_2 : w2.cell? ⟨w.heap.size + 1, 1, none⟩ = some (.int .i64 d) := cell_later hB2 (by go_simp)
 have r0_2 : w2.cell? ⟨w.heap.size + 1 + 1, 0, none⟩ = some (.int .i64 0) := cell_later hB2 (by go_simp)
 have r1_2 : w2.cell? ⟨w.heap.size + 1 + 1, 1, none⟩ = some (.int .i64 0) := cell_later hB2 (by go_simp)
 have r2_2 : w2.cell? ⟨w.heap.size + 1 + 1, 2, none⟩ = some (.bool false) := cell_later hB2 (by go_simp)
 have r3_2 : w2.cell? ⟨w.heap.size + 1 + 1, 3, none⟩ = some (.bool false) := cell_later hB2 (by go_simp)
 have r4_2 : w2.cell? ⟨w.heap.size + 1 + 1, 4, none⟩ = some (.bool false) := cell_later hB2 (by go_simp)
 have u0_2 : w2.cell? ⟨w.heap.size + 1 + 1 + 1, 0, none⟩ = some (.int .i64 0) := cell_later hB2 (by go_simp)
 have u1_2 : w2.cell? ⟨w.heap.size + 1 + 1 + 1, 1, none⟩ = some (.int .i64 1) := cell_later hB2 (by go_simp)
 have kp_2 : w2.cell? ⟨p, 0, none⟩ = some (.func (.func f) #[] #[]) := cell_later hB2 (by go_simp)
 have kq_2 : w2.cell? ⟨q, 0, none⟩ = some (.func (.func g) #[] #[]) := cell_later hB2 (by go_simp)
 have f0_2 : w2.frozen? ⟨w.heap.size + 1 + 1, 0, none⟩ = false := keepFr hB2 (by first | omega | (simp; omega) | simp) (by go_simp)
 have f1_2 : w2.frozen? ⟨w.heap.size + 1 + 1, 1, none⟩ = false := keepFr hB2 (by first | omega | (simp; omega) | simp) (by go_simp)
 have f2_2 : w2.frozen? ⟨w.heap.size + 1 + 1, 2, none⟩ = false := keepFr hB2 (by first | omega | (simp; omega) | simp) (by go_simp)
 have f3_2 : w2.frozen? ⟨w.heap.size + 1 + 1, 3, none⟩ = false := keepFr hB2 (by first | omega | (simp; omega) | simp) (by go_simp)
 have f4_2 : w2.frozen? ⟨w.heap.size + 1 + 1, 4, none⟩ = false := keepFr hB2 (by first | omega | (simp; omega) | simp) (by go_simp)
 have g0_2 : w2.frozen? ⟨w.heap.size + 1 + 1 + 1, 0, none⟩ = false := keepFr hB2 (by first | omega | (simp; omega) | simp) (by go_simp)
 have g1_2 : w2.frozen? ⟨w.heap.size + 1 + 1 + 1, 1, none⟩ = false := keepFr hB2 (by first | omega | (simp; omega) | simp) (by go_simp)
 clear hB2 bl1 z0_1 z1_1 z2_1 z3_1 zp_1 zq_1 a0_1 a1_1 c0_1 c1_1 u0_1 u1_1 kp_1 kq_1 g0_1 g1_1 r0_1 r1_1 r2_1 r3_1 r4_1 f0_1 f1_1 f2_1 f3_1 f4_1
 go_wp2_with fail
 refine (SR _).out.mono ?_
 rintro e3 w3 ⟨rfl, hB3⟩
 have z3_3 : w.heap.size + 1 + 1 + 1 < w3.heap.size := by have := hB3.size; simp at this; omega
 have bl3 : Below w.heap.size w w3 := ((((bl2).setCell (by first | omega | (simp; omega) | (simp [World.setCell]; omega) | simp) _).alloc (by first | omega | (simp; omega) | (simp [World.setCell]; omega) | simp) _).alloc (by first | omega | (simp; omega) | (simp [World.setCell]; omega) | simp) _).trans (hB3.mono (by first | omega | (simp; omega) | (simp [World.setCell]; omega) | simp))
 have z2_3 : w.heap.size + 1 + 1 < w3.heap.size := by omega
 have z0_3 : w.heap.size < w3.heap.size := by omega
 have z1_3 : w.heap.size + 1 < w3.heap.size := by omega
 have zp_3 : p < w3.heap.size := by omega
 have zq_3 : q < w3.heap.size := by omega
 have a0_3 : w3.cell? ⟨w.heap.size, 0, none⟩ = some (.int .i64 a) := cell_later hB3 (by go_simp)
 have a1_3 : w3.cell? ⟨w.heap.size, 1, none⟩ = some (.int .i64 b) := cell_later hB3 (by go_simp)
 have c0_3 : w3.cell? ⟨w.heap.size + 1, 0, none⟩ = some (.int .i64 c) := cell_later hB3 (by go_simp)
 have c1_3 : w3.cell? ⟨w.heap.size + 1, 1, none⟩ = some (.int .i64 d) := cell_later hB3 (by go_simp)
 have r0_3 : w3.cell? ⟨w.heap.size + 1 + 1, 0, none⟩ = some (.int .i64 0) := cell_later hB3 (by go_simp)
 have r1_3 : w3.cell? ⟨w.heap.size + 1 + 1, 1, none⟩ = some (.int .i64 0) := cell_later hB3 (by go_simp)
 have r2_3 : w3.cell? ⟨w.heap.size + 1 + 1, 2, none⟩ = some (.bool false) := cell_later hB3 (by go_simp)
 have r3_3 : w3.cell? ⟨w.heap.size + 1 + 1, 3, none⟩ = some (.bool false) := cell_later hB3 (by go_simp)
 have r4_3 : w3.cell? ⟨w.heap.size + 1 + 1, 4, none⟩ = some (.bool false) := cell_later hB3 (by go_simp)
 have u0_3 : w3.cell? ⟨w.heap.size + 1 + 1 + 1, 0, none⟩ = some (.int .i64 1) := cell_later hB3 (by go_simp)
 have u1_3 : w3.cell? ⟨w.heap.size + 1 + 1 + 1, 1, none⟩ = some (.int .i64 1) := cell_later hB3 (by go_simp)
 have kp_3 : w3.cell? ⟨p, 0, none⟩ = some (.func (.func f) #[] #[]) := cell_later hB3 (by go_simp)
 have kq_3 : w3.cell? ⟨q, 0, none⟩ = some (.func (.func g) #[] #[]) := cell_later hB3 (by go_simp)
 have f0_3 : w3.frozen? ⟨w.heap.size + 1 + 1, 0, none⟩ = false := keepFr hB3 (by first | omega | (simp; omega) | simp) (by go_simp)
 have f1_3 : w3.frozen? ⟨w.heap.size + 1 + 1, 1, none⟩ = false := keepFr hB3 (by first | omega | (simp; omega) | simp) (by go_simp)
 have f2_3 : w3.frozen? ⟨w.heap.size + 1 + 1, 2, none⟩ = false := keepFr hB3 (by first | omega | (simp; omega) | simp) (by go_simp)
 have f3_3 : w3.frozen? ⟨w.heap.size + 1 + 1, 3, none⟩ = false := keepFr hB3 (by first | omega | (simp; omega) | simp) (by go_simp)
 have f4_3 : w3.frozen? ⟨w.heap.size + 1 + 1, 4, none⟩ = false := keepFr hB3 (by first | omega | (simp; omega) | simp) (by go_simp)
 have g0_3 : w3.frozen? ⟨w.heap.size + 1 + 1 + 1, 0, none⟩ = false := keepFr hB3 (by first | omega | (simp; omega) | simp) (by go_simp)
 have g1_3 : w3.frozen? ⟨w.heap.size + 1 + 1 + 1, 1, none⟩ = false := keepFr hB3 (by first | omega | (simp; omega) | simp) (by go_simp)
 clear hB3 bl2 z0_2 z1_2 z2_2 z3_2 zp_2 zq_2 a0_2 a1_2 c0_2 c1_2 u0_2 u1_2 kp_2 kq_2 g0_2 g1_2 r0_2 r1_2 r2_2 r3_2 r4_2 f0_2 f1_2 f2_2 f3_2 f4_2
 go_wp2
 refine bodyPost_ret (v := EffV 1 1 true false false) (by simp [results, Try.results80, go_sem, r0_3, r1_3, r2_3, r3_3, r4_3, EffV]) rfl ⟨rfl, ?_⟩
 exact (((bl3).setCell (by simp; try omega) _).setCell (by simp; try omega) _).setCell (by simp; try omega) _
theorem pcmp_ft (a b c d x0 x1 y0 y1 u0 u1 v0 v1 : Int) (f g p q : Nat) (w : World) (hpl : p < w.heap.size) (hql : q < w.heap.size) (hp : w.cell? ⟨p, 0, none⟩ = some (.func (.func f) #[] #[])) (hq : w.cell? ⟨q, 0, none⟩ = some (.func (.func g) #[] #[]))
   (ef : ∀ args w, (callFunc f args).run Try.prog w = .ok (.enter f args) w) (eg : ∀ args w, (callFunc g args).run Try.prog w = .ok (.enter g args) w) (F : Narrows f a b c d x0 x1 y0 y1 false) (G : Narrows g a b c d u0 u1 v0 v1 true) (SR : Sure 0 0) :
   Calls Try.prog 80 #[.agg #[.int .i64 a, .int .i64 b], .agg #[.int .i64 c, .int .i64 d], .pointer (some ⟨p, 0, none⟩), .pointer (some ⟨q, 0, none⟩)] w fun e w' => e = .returned (EffV 0 0 true false false) ∧ Below w.heap.size w w' := by
 have hp4 : ∀ o1 o2 o3 o4, ((((w.alloc o1).alloc o2).alloc o3).alloc o4).cell? ⟨p, 0, none⟩ = some (.func (.func f) #[] #[]) := by
   intro o1 o2 o3 o4
   rw [(((((Below.refl w.heap.size w).alloc (Nat.le_refl _) o1).alloc (by simp) o2).alloc (by simp; omega) o3).alloc (by simp; omega) o4).cell (p := ⟨p, 0, none⟩) hpl]
   exact hp
 have hq4 : ∀ o1 o2 o3 o4, ((((w.alloc o1).alloc o2).alloc o3).alloc o4).cell? ⟨q, 0, none⟩ = some (.func (.func g) #[] #[]) := by
   intro o1 o2 o3 o4
   rw [(((((Below.refl w.heap.size w).alloc (Nat.le_refl _) o1).alloc (by simp) o2).alloc (by simp; omega) o3).alloc (by simp; omega) o4).cell (p := ⟨q, 0, none⟩) hql]
   exact hq
 clear hp hq
 go_enter Try.func80, Try.ntmps80
 go_wp2_with fail
 refine (F _).out.mono ?_
 rintro e1 w1 ⟨rfl, hB1⟩
 have z3_1 : w.heap.size + 1 + 1 + 1 < w1.heap.size := by have := hB1.size; simp at this; omega
 have bl1 : Below w.heap.size w w1 := (((((Below.refl _ _).alloc (Nat.le_refl _) _).alloc (by simp) _).alloc (by simp; omega) _).alloc (by simp; omega) _).trans (hB1.mono (by first | omega | (simp; omega) | (simp [World.setCell]; omega) | simp))
 have z2_1 : w.heap.size + 1 + 1 < w1.heap.size := by omega
 have z0_1 : w.heap.size < w1.heap.size := by omega
 have z1_1 : w.heap.size + 1 < w1.heap.size := by omega
 have zp_1 : p < w1.heap.size := by omega
 have zq_1 : q < w1.heap.size := by omega
 have a0_1 : w1.cell? ⟨w.heap.size, 0, none⟩ = some (.int .i64 a) := cell_later hB1 (by go_simp)
 have a1_1 : w1.cell? ⟨w.heap.size, 1, none⟩ = some (.int .i64 b) := cell_later hB1 (by go_simp)
 have c0_1 : w1.cell? ⟨w.heap.size + 1, 0, none⟩ = some (.int .i64 c) := cell_later hB1 (by go_simp)
 have c1_1 : w1.cell? ⟨w.heap.size + 1, 1, none⟩ = some (.int .i64 d) := cell_later hB1 (by go_simp)
 have r0_1 : w1.cell? ⟨w.heap.size + 1 + 1, 0, none⟩ = some (.int .i64 0) := cell_later hB1 (by go_simp)
 have r1_1 : w1.cell? ⟨w.heap.size + 1 + 1, 1, none⟩ = some (.int .i64 0) := cell_later hB1 (by go_simp)
 have r2_1 : w1.cell? ⟨w.heap.size + 1 + 1, 2, none⟩ = some (.bool false) := cell_later hB1 (by go_simp)
 have r3_1 : w1.cell? ⟨w.heap.size + 1 + 1, 3, none⟩ = some (.bool false) := cell_later hB1 (by go_simp)
 have r4_1 : w1.cell? ⟨w.heap.size + 1 + 1, 4, none⟩ = some (.bool false) := cell_later hB1 (by go_simp)
 have u0_1 : w1.cell? ⟨w.heap.size + 1 + 1 + 1, 0, none⟩ = some (.int .i64 0) := cell_later hB1 (by go_simp)
 have u1_1 : w1.cell? ⟨w.heap.size + 1 + 1 + 1, 1, none⟩ = some (.int .i64 1) := cell_later hB1 (by go_simp)
 have kp_1 : w1.cell? ⟨p, 0, none⟩ = some (.func (.func f) #[] #[]) := cell_later hB1 (by go_simp)
 have kq_1 : w1.cell? ⟨q, 0, none⟩ = some (.func (.func g) #[] #[]) := cell_later hB1 (by go_simp)
 have f0_1 : w1.frozen? ⟨w.heap.size + 1 + 1, 0, none⟩ = false := keepFr hB1 (by first | omega | (simp; omega) | simp) (by go_simp)
 have f1_1 : w1.frozen? ⟨w.heap.size + 1 + 1, 1, none⟩ = false := keepFr hB1 (by first | omega | (simp; omega) | simp) (by go_simp)
 have f2_1 : w1.frozen? ⟨w.heap.size + 1 + 1, 2, none⟩ = false := keepFr hB1 (by first | omega | (simp; omega) | simp) (by go_simp)
 have f3_1 : w1.frozen? ⟨w.heap.size + 1 + 1, 3, none⟩ = false := keepFr hB1 (by first | omega | (simp; omega) | simp) (by go_simp)
 have f4_1 : w1.frozen? ⟨w.heap.size + 1 + 1, 4, none⟩ = false := keepFr hB1 (by first | omega | (simp; omega) | simp) (by go_simp)
 have g0_1 : w1.frozen? ⟨w.heap.size + 1 + 1 + 1, 0, none⟩ = false := keepFr hB1 (by first | omega | (simp; omega) | simp) (by go_simp)
 have g1_1 : w1.frozen? ⟨w.heap.size + 1 + 1 + 1, 1, none⟩ = false := keepFr hB1 (by first | omega | (simp; omega) | simp) (by go_simp)
 clear hB1
 go_wp2_with fail
 refine (G _).out.mono ?_
 rintro e2 w2 ⟨rfl, hB2⟩
 have z3_2 : w.heap.size + 1 + 1 + 1 < w2.heap.size := by have := hB2.size; simp at this; omega
 have bl2 : Below w.heap.size w w2 := ((((bl1).setCell (by first | omega | (simp; omega) | (simp [World.setCell]; omega) | simp) _).alloc (by first | omega | (simp; omega) | (simp [World.setCell]; omega) | simp) _).alloc (by first | omega | (simp; omega) | (simp [World.setCell]; omega) | simp) _).trans (hB2.mono (by first | omega | (simp; omega) | (simp [World.setCell]; omega) | simp))
 have z2_2 : w.heap.size + 1 + 1 < w2.heap.size := by omega
 have z0_2 : w.heap.size < w2.heap.size := by omega
 have z1_2 : w.heap.size + 1 < w2.heap.size := by omega
 have zp_2 : p < w2.heap.size := by omega
 have zq_2 : q < w2.heap.size := by omega
 have a0_2 : w2.cell? ⟨w.heap.size, 0, none⟩ = some (.int .i64 a) := cell_later hB2 (by go_simp)
 have a1_2 : w2.cell? ⟨w.heap.size, 1, none⟩ = some (.int .i64 b) := cell_later hB2 (by go_simp)
 have c0_2 : w2.cell? ⟨w.heap.size + 1, 0, none⟩ = some (.int .i64 c) := cell_later hB2 (by go_simp)
 have c1_2 : w2.cell? ⟨w.heap.size + 1, 1, none⟩ = some (.int .i64 d) := cell_later hB2 (by go_simp)
 have r0_2 : w2.cell? ⟨w.heap.size + 1 + 1, 0, none⟩ = some (.int .i64 0) := cell_later hB2 (by go_simp)
 have r1_2 : w2.cell? ⟨w.heap.size + 1 + 1, 1, none⟩ = some (.int .i64 0) := cell_later hB2 (by go_simp)
 have r2_2 : w2.cell? ⟨w.heap.size + 1 + 1, 2, none⟩ = some (.bool false) := cell_later hB2 (by go_simp)
 have r3_2 : w2.cell? ⟨w.heap.size + 1 + 1, 3, none⟩ = some (.bool false) := cell_later hB2 (by go_simp)
 have r4_2 : w2.cell? ⟨w.heap.size + 1 + 1, 4, none⟩ = some (.bool false) := cell_later hB2 (by go_simp)
 have u0_2 : w2.cell? ⟨w.heap.size + 1 + 1 + 1, 0, none⟩ = some (.int .i64 0) := cell_later hB2 (by go_simp)
 have u1_2 : w2.cell? ⟨w.heap.size + 1 + 1 + 1, 1, none⟩ = some (.int .i64 0) := cell_later hB2 (by go_simp)
 have kp_2 : w2.cell? ⟨p, 0, none⟩ = some (.func (.func f) #[] #[]) := cell_later hB2 (by go_simp)
 have kq_2 : w2.cell? ⟨q, 0, none⟩ = some (.func (.func g) #[] #[]) := cell_later hB2 (by go_simp)
 have f0_2 : w2.frozen? ⟨w.heap.size + 1 + 1, 0, none⟩ = false := keepFr hB2 (by first | omega | (simp; omega) | simp) (by go_simp)
 have f1_2 : w2.frozen? ⟨w.heap.size + 1 + 1, 1, none⟩ = false := keepFr hB2 (by first | omega | (simp; omega) | simp) (by go_simp)
 have f2_2 : w2.frozen? ⟨w.heap.size + 1 + 1, 2, none⟩ = false := keepFr hB2 (by first | omega | (simp; omega) | simp) (by go_simp)
 have f3_2 : w2.frozen? ⟨w.heap.size + 1 + 1, 3, none⟩ = false := keepFr hB2 (by first | omega | (simp; omega) | simp) (by go_simp)
 have f4_2 : w2.frozen? ⟨w.heap.size + 1 + 1, 4, none⟩ = false := keepFr hB2 (by first | omega | (simp; omega) | simp) (by go_simp)
 have g0_2 : w2.frozen? ⟨w.heap.size + 1 + 1 + 1, 0, none⟩ = false := keepFr hB2 (by first | omega | (simp; omega) | simp) (by go_simp)
 have g1_2 : w2.frozen? ⟨w.heap.size + 1 + 1 + 1, 1, none⟩ = false := keepFr hB2 (by first | omega | (simp; omega) | simp) (by go_simp)
 clear hB2 bl1 z0_1 z1_1 z2_1 z3_1 zp_1 zq_1 a0_1 a1_1 c0_1 c1_1 u0_1 u1_1 kp_1 kq_1 g0_1 g1_1 r0_1 r1_1 r2_1 r3_1 r4_1 f0_1 f1_1 f2_1 f3_1 f4_1
 go_wp2_with fail
 refine (SR _).out.mono ?_
 rintro e3 w3 ⟨rfl, hB3⟩
 have z3_3 : w.heap.size + 1 + 1 + 1 < w3.heap.size := by have := hB3.size; simp at this; omega
 have bl3 : Below w.heap.size w w3 := (((bl2).alloc (by first | omega | (simp; omega) | (simp [World.setCell]; omega) | simp) _).alloc (by first | omega | (simp; omega) | (simp [World.setCell]; omega) | simp) _).trans (hB3.mono (by first | omega | (simp; omega) | (simp [World.setCell]; omega) | simp))
 have z2_3 : w.heap.size + 1 + 1 < w3.heap.size := by omega
 have z0_3 : w.heap.size < w3.heap.size := by omega
 have z1_3 : w.heap.size + 1 < w3.heap.size := by omega
 have zp_3 : p < w3.heap.size := by omega
 have zq_3 : q < w3.heap.size := by omega
 have a0_3 : w3.cell? ⟨w.heap.size, 0, none⟩ = some (.int .i64 a) := cell_later hB3 (by go_simp)
 have a1_3 : w3.cell? ⟨w.heap.size, 1, none⟩ = some (.int .i64 b) := cell_later hB3 (by go_simp)
 have c0_3 : w3.cell? ⟨w.heap.size + 1, 0, none⟩ = some (.int .i64 c) := cell_later hB3 (by go_simp)
 have c1_3 : w3.cell? ⟨w.heap.size + 1, 1, none⟩ = some (.int .i64 d) := cell_later hB3 (by go_simp)
 have r0_3 : w3.cell? ⟨w.heap.size + 1 + 1, 0, none⟩ = some (.int .i64 0) := cell_later hB3 (by go_simp)
 have r1_3 : w3.cell? ⟨w.heap.size + 1 + 1, 1, none⟩ = some (.int .i64 0) := cell_later hB3 (by go_simp)
 have r2_3 : w3.cell? ⟨w.heap.size + 1 + 1, 2, none⟩ = some (.bool false) := cell_later hB3 (by go_simp)
 have r3_3 : w3.cell? ⟨w.heap.size + 1 + 1, 3, none⟩ = some (.bool false) := cell_later hB3 (by go_simp)
 have r4_3 : w3.cell? ⟨w.heap.size + 1 + 1, 4, none⟩ = some (.bool false) := cell_later hB3 (by go_simp)
 have u0_3 : w3.cell? ⟨w.heap.size + 1 + 1 + 1, 0, none⟩ = some (.int .i64 0) := cell_later hB3 (by go_simp)
 have u1_3 : w3.cell? ⟨w.heap.size + 1 + 1 + 1, 1, none⟩ = some (.int .i64 0) := cell_later hB3 (by go_simp)
 have kp_3 : w3.cell? ⟨p, 0, none⟩ = some (.func (.func f) #[] #[]) := cell_later hB3 (by go_simp)
 have kq_3 : w3.cell? ⟨q, 0, none⟩ = some (.func (.func g) #[] #[]) := cell_later hB3 (by go_simp)
 have f0_3 : w3.frozen? ⟨w.heap.size + 1 + 1, 0, none⟩ = false := keepFr hB3 (by first | omega | (simp; omega) | simp) (by go_simp)
 have f1_3 : w3.frozen? ⟨w.heap.size + 1 + 1, 1, none⟩ = false := keepFr hB3 (by first | omega | (simp; omega) | simp) (by go_simp)
 have f2_3 : w3.frozen? ⟨w.heap.size + 1 + 1, 2, none⟩ = false := keepFr hB3 (by first | omega | (simp; omega) | simp) (by go_simp)
 have f3_3 : w3.frozen? ⟨w.heap.size + 1 + 1, 3, none⟩ = false := keepFr hB3 (by first | omega | (simp; omega) | simp) (by go_simp)
 have f4_3 : w3.frozen? ⟨w.heap.size + 1 + 1, 4, none⟩ = false := keepFr hB3 (by first | omega | (simp; omega) | simp) (by go_simp)
 have g0_3 : w3.frozen? ⟨w.heap.size + 1 + 1 + 1, 0, none⟩ = false := keepFr hB3 (by first | omega | (simp; omega) | simp) (by go_simp)
 have g1_3 : w3.frozen? ⟨w.heap.size + 1 + 1 + 1, 1, none⟩ = false := keepFr hB3 (by first | omega | (simp; omega) | simp) (by go_simp)
 clear hB3 bl2 z0_2 z1_2 z2_2 z3_2 zp_2 zq_2 a0_2 a1_2 c0_2 c1_2 u0_2 u1_2 kp_2 kq_2 g0_2 g1_2 r0_2 r1_2 r2_2 r3_2 r4_2 f0_2 f1_2 f2_2 f3_2 f4_2
 go_wp2
 refine bodyPost_ret (v := EffV 0 0 true false false) (by simp [results, Try.results80, go_sem, r0_3, r1_3, r2_3, r3_3, r4_3, EffV]) rfl ⟨rfl, ?_⟩
 exact (bl3).setCell (by simp; try omega) _
end Go.Proofs.Ytgkhldbnljdeiaa
