/- RngZW, RngZX, RngZY. -/
import Derived.Test.YtgkhldbnljdeiaaKRngZJToRngZV
import Derived.Test.YtgkhldbnljdeiaaKRngZBToRngZE
set_option linter.unusedSimpArgs false
set_option linter.unusedVariables false
/- compared of layer 4: the operator that it makes of what a comparison leaves, and of what its opposite leaves. -/
namespace Go.Proofs.Ytgkhldbnljdeiaa
open Go.RowKit RangesMath
attribute [local go_sem] World.setCell_self

/-- A narrowing's answer. -/
def Narrows (f : Nat) (a b c d x0 x1 y0 y1 : Int) (p : Bool) : Prop := ∀ w, Hid (Calls Try.prog f #[.agg #[.int .i64 a, .int .i64 b], .agg #[.int .i64 c, .int .i64 d]] w fun e w' => e = .returned (.tuple #[.agg #[.int .i64 x0, .int .i64 x1], .agg #[.int .i64 y0, .int .i64 y1], .bool p]) ∧ Below w.heap.size w w')

set_option maxRecDepth 100000 in
set_option maxHeartbeats 4000000 in
theorem pcmp_tt (a b c d x0 x1 y0 y1 u0 u1 v0 v1 : Int) (f g p q : Nat) (w : World) (hpl : p < w.heap.size) (hql : q < w.heap.size) (hp : w.cell? ⟨p, 0, none⟩ = some (.func (.func f) #[] #[])) (hq : w.cell? ⟨q, 0, none⟩ = some (.func (.func g) #[] #[]))
    (ef : ∀ args w, (callFunc f args).run Try.prog w = .ok (.enter f args) w) (eg : ∀ args w, (callFunc g args).run Try.prog w = .ok (.enter g args) w) (F : Narrows f a b c d x0 x1 y0 y1 true) (G : Narrows g a b c d u0 u1 v0 v1 true) (SR : Sure 0 1) :
    Calls Try.prog 80 #[.agg #[.int .i64 a, .int .i64 b], .agg #[.int .i64 c, .int .i64 d], .pointer (some ⟨p, 0, none⟩), .pointer (some ⟨q, 0, none⟩)] w fun e w' => e = .returned (EffV 0 1 true false false) ∧ Below w.heap.size w w' := by
  have hp4 : ∀ o1 o2 o3 o4, ((((w.alloc o1).alloc o2).alloc o3).alloc o4).cell? ⟨p, 0, none⟩ = some (.func (.func f) #[] #[]) := by
    intro o1 o2 o3 o4
    rw [(((((Below.refl w.heap.size w).alloc (Nat.le_refl _) o1).alloc (by simp) o2).alloc (by simp; omega) o3).alloc (by simp; omega) o4).cell (p := ⟨p, 0, none⟩) hpl]
    exact hp
  have hq4 : ∀ o1 o2 o3 o4, ((((w.alloc o1).alloc o2).alloc o3).alloc o4).cell? ⟨q, 0, none⟩ = some (.func (.func g) #[] #[]) := by
    intro o1 o2 o3 o4
    rw [(((((Below.refl w.heap.size w).alloc (Nat.le_refl _) o1).alloc (by simp) o2).alloc (by simp; omega) o3).alloc (by simp; omega) o4).cell (p := ⟨q, 0, none⟩) hql]
    exact hq
  clear hp hq
  go_enter Try.func80, Try.ntmps80
  go_wp2_with fail
  refine (F _).out.mono ?_
  rintro e1 w1 ⟨rfl, hB1⟩
  have z3_1 : w.heap.size + 1 + 1 + 1 < w1.heap.size := by have := hB1.size; simp at this; omega
  have bl1 : Below w.heap.size w w1 := (((((Below.refl _ _).alloc (Nat.le_refl _) _).alloc (by simp) _).alloc (by simp; omega) _).alloc (by simp; omega) _).trans (hB1.mono (by first | omega | (simp; omega) | (simp [World.setCell]; omega) | simp))
  have z2_1 : w.heap.size + 1 + 1 < w1.heap.size := by omega
  have z0_1 : w.heap.size < w1.heap.size := by omega
  have z1_1 : w.heap.size + 1 < w1.heap.size := by omega
  have zp_1 : p < w1.heap.size := by omega
  have zq_1 : q < w1.heap.size := by omega
  have a0_1 : w1.cell? ⟨w.heap.size, 0, none⟩ = some (.int .i64 a) := cell_later hB1 (by go_simp)
  have a1_1 : w1.cell? ⟨w.heap.size, 1, none⟩ = some (.int .i64 b) := cell_later hB1 (by go_simp)
  have c0_1 : w1.cell? ⟨w.heap.size + 1, 0, none⟩ = some (.int .i64 c) := cell_later hB1 (by go_simp)
  have c1_1 : w1.cell? ⟨w.heap.size + 1, 1, none⟩ = some (.int .i64 d) := cell_later hB1 (by go_simp)
  have r0_1 : w1.cell? ⟨w.heap.size + 1 + 1, 0, none⟩ = some (.int .i64 0) := cell_later hB1 (by go_simp)
  have r1_1 : w1.cell? ⟨w.heap.size + 1 + 1, 1, none⟩ = some (.int .i64 0) := cell_later hB1 (by go_simp)
  have r2_1 : w1.cell? ⟨w.heap.size + 1 + 1, 2, none⟩ = some (.bool false) := cell_later hB1 (by go_simp)
  have r3_1 : w1.cell? ⟨w.heap.size + 1 + 1, 3, none⟩ = some (.bool false) := cell_later hB1 (by go_simp)
  have r4_1 : w1.cell? ⟨w.heap.size + 1 + 1, 4, none⟩ = some (.bool false) := cell_later hB1 (by go_simp)
  have u0_1 : w1.cell? ⟨w.heap.size + 1 + 1 + 1, 0, none⟩ = some (.int .i64 0) := cell_later hB1 (by go_simp)
  have u1_1 : w1.cell? ⟨w.heap.size + 1 + 1 + 1, 1, none⟩ = some (.int .i64 1) := cell_later hB1 (by go_simp)
  have kp_1 : w1.cell? ⟨p, 0, none⟩ = some (.func (.func f) #[] #[]) := cell_later hB1 (by go_simp)
  have kq_1 : w1.cell? ⟨q, 0, none⟩ = some (.func (.func g) #[] #[]) := cell_later hB1 (by go_simp)
  have f0_1 : w1.frozen? ⟨w.heap.size + 1 + 1, 0, none⟩ = false := keepFr hB1 (by first | omega | (simp; omega) | simp) (by go_simp)
  have f1_1 : w1.frozen? ⟨w.heap.size + 1 + 1, 1, none⟩ = false := keepFr hB1 (by first | omega | (simp; omega) | simp) (by go_simp)
  have f2_1 : w1.frozen? ⟨w.heap.size + 1 + 1, 2, none⟩ = false := keepFr hB1 (by first | omega | (simp; omega) | simp) (by go_simp)
  have f3_1 : w1.frozen? ⟨w.heap.size + 1 + 1, 3, none⟩ = false := keepFr hB1 (by first | omega | (simp; omega) | simp) (by go_simp)
  have f4_1 : w1.frozen? ⟨w.heap.size + 1 + 1, 4, none⟩ = false := keepFr hB1 (by first | omega | (simp; omega) | simp) (by go_simp)
  have g0_1 : w1.frozen? ⟨w.heap.size + 1 + 1 + 1, 0, none⟩ = false := keepFr hB1 (by first | omega | (simp; omega) | simp) (by go_simp)
  have g1_1 : w1.frozen? ⟨w.heap.size + 1 + 1 + 1, 1, none⟩ = false := keepFr hB1 (by first | omega | (simp; omega) | simp) (by go_simp)
  clear hB1
  go_wp2_with fail
  refine (G _).out.mono ?_
  rintro e2 w2 ⟨rfl, hB2⟩
  have z3_2 : w.heap.size + 1 + 1 + 1 < w2.heap.size := by have := hB2.size; simp at this; omega
  have bl2 : Below w.heap.size w w2 := (((bl1).alloc (by first | omega | (simp; omega) | (simp [World.setCell]; omega) | simp) _).alloc (by first | omega | (simp; omega) | (simp [World.setCell]; omega) | simp) _).trans (hB2.mono (by first | omega | (simp; omega) | (simp [World.setCell]; omega) | simp))
  have z2_2 : w.heap.size + 1 + 1 < w2.heap.size := by omega
  have z0_2 : w.heap.size < w2.heap.size := by omega
  have z1_2 : w.heap.size + 1 < w2.heap.size := by omega
  have zp_2 : p < w2.heap.size := by omega
  have zq_2 : q < w2.heap.size := by omega
  have a0_2 : w2.cell? ⟨w.heap.size, 0, none⟩ = some (.int .i64 a) := cell_later hB2 (by go_simp)
  have a1_2 : w2.cell? ⟨w.heap.size, 1, none⟩ = some (.int .i64 b) := cell_later hB2 (by go_simp)
  have c0_2 : w2.cell? ⟨w.heap.size + 1, 0, none⟩ = some (.int .i64 c) := cell_later hB2 (by go_simp)
  have c1_2 : w2.cell? ⟨w.heap.size + 1, 1, none⟩ = some (.int .i64 d) := cell_later hB2 (by go_simp)
  have r0_2 : w2.cell? ⟨w.heap.size + 1 + 1, 0, none⟩ = some (.int .i64 0) := cell_later hB2 (by go_simp)
  have r1_2 : w2.cell? ⟨w.heap.size + 1 + 1, 1, none⟩ = some (.int .i64 0) := cell_later hB2 (by go_simp)
  have r2_2 : w2.cell? ⟨w.heap.size + 1 + 1, 2, none⟩ = some (.bool false) := cell_later hB2 (by go_simp)
  have r3_2 : w2.cell? ⟨w.heap.size + 1 + 1, 3, none⟩ = some (.bool false) := cell_later hB2 (by go_simp)
  have r4_2 : w2.cell? ⟨w.heap.size + 1 + 1, 4, none⟩ = some (.bool false) := cell_later hB2 (by go_simp)
  have u0_2 : w2.cell? ⟨w.heap.size + 1 + 1 + 1, 0, none⟩ = some (.int .i64 0) := cell_later hB2 (by go_simp)
  have u1_2 : w2.cell? ⟨w.heap.size + 1 + 1 + 1, 1, none⟩ = some (.int .i64 1) := cell_later hB2 (by go_simp)
  have kp_2 : w2.cell? ⟨p, 0, none⟩ = some (.func (.func f) #[] #[]) := cell_later hB2 (by go_simp)
  have kq_2 : w2.cell? ⟨q, 0, none⟩ = some (.func (.func g) #[] #[]) := cell_later hB2 (by go_simp)
  have f0_2 : w2.frozen? ⟨w.heap.size + 1 + 1, 0, none⟩ = false := keepFr hB2 (by first | omega | (simp; omega) | simp) (by go_simp)
  have f1_2 : w2.frozen? ⟨w.heap.size + 1 + 1, 1, none⟩ = false := keepFr hB2 (by first | omega | (simp; omega) | simp) (by go_simp)
  have f2_2 : w2.frozen? ⟨w.heap.size + 1 + 1, 2, none⟩ = false := keepFr hB2 (by first | omega | (simp; omega) | simp) (by go_simp)
  have f3_2 : w2.frozen? ⟨w.heap.size + 1 + 1, 3, none⟩ = false := keepFr hB2 (by first | omega | (simp; omega) | simp) (by go_simp)
  have f4_2 : w2.frozen? ⟨w.heap.size + 1 + 1, 4, none⟩ = false := keepFr hB2 (by first | omega | (simp; omega) | simp) (by go_simp)
  have g0_2 : w2.frozen? ⟨w.heap.size + 1 + 1 + 1, 0, none⟩ = false := keepFr hB2 (by first | omega | (simp; omega) | simp) (by go_simp)
  have g1_2 : w2.frozen? ⟨w.heap.size + 1 + 1 + 1, 1, none⟩ = false := keepFr hB2 (by first | omega | (simp; omega) | simp) (by go_simp)
  clear hB2 bl1 z0_1 z1_1 z2_1 z3_1 zp_1 zq_1 a0_1 a1_1 c0_1 c1_1 u0_1 u1_1 kp_1 kq_1 g0_1 g1_1 r0_1 r1_1 r2_1 r3_1 r4_1 f0_1 f1_1 f2_1 f3_1 f4_1
  go_wp2_with fail
  refine (SR _).out.mono ?_
  rintro e3 w3 ⟨rfl, hB3⟩
  have z3_3 : w.heap.size + 1 + 1 + 1 < w3.heap.size := by have := hB3.size; simp at this; omega
  have bl3 : Below w.heap.size w w3 := (((bl2).alloc (by first | omega | (simp; omega) | (simp [World.setCell]; omega) | simp) _).alloc (by first | omega | (simp; omega) | (simp [World.setCell]; omega) | simp) _).trans (hB3.mono (by first | omega | (simp; omega) | (simp [World.setCell]; omega) | simp))
  have z2_3 : w.heap.size + 1 + 1 < w3.heap.size := by omega
  have z0_3 : w.heap.size < w3.heap.size := by omega
  have z1_3 : w.heap.size + 1 < w3.heap.size := by omega
  have zp_3 : p < w3.heap.size := by omega
  have zq_3 : q < w3.heap.size := by omega
  have a0_3 : w3.cell? ⟨w.heap.size, 0, none⟩ = some (.int .i64 a) := cell_later hB3 (by go_simp)
  have a1_3 : w3.cell? ⟨w.heap.size, 1, none⟩ = some (.int .i64 b) := cell_later hB3 (by go_simp)
  have c0_3 : w3.cell? ⟨w.heap.size + 1, 0, none⟩ = some (.int .i64 c) := cell_later hB3 (by go_simp)
  have c1_3 : w3.cell? ⟨w.heap.size + 1, 1, none⟩ = some (.int .i64 d) := cell_later hB3 (by go_simp)
  have r0_3 : w3.cell? ⟨w.heap.size + 1 + 1, 0, none⟩ = some (.int .i64 0) := cell_later hB3 (by go_simp)
  have r1_3 : w3.cell? ⟨w.heap.size + 1 + 1, 1, none⟩ = some (.int .i64 0) := cell_later hB3 (by go_simp)
  have r2_3 : w3.cell? ⟨w.heap.size + 1 + 1, 2, none⟩ = some (.bool false) := cell_later hB3 (by go_simp)
  have r3_3 : w3.cell? ⟨w.heap.size + 1 + 1, 3, none⟩ = some (.bool false) := cell_later hB3 (by go_simp)
  have r4_3 : w3.cell? ⟨w.heap.size + 1 + 1, 4, none⟩ = some (.bool false) := cell_later hB3 (by go_simp)
  have u0_3 : w3.cell? ⟨w.heap.size + 1 + 1 + 1, 0, none⟩ = some (.int .i64 0) := cell_later hB3 (by go_simp)
  have u1_3 : w3.cell? ⟨w.heap.size + 1 + 1 + 1, 1, none⟩ = some (.int .i64 1) := cell_later hB3 (by go_simp)
  have kp_3 : w3.cell? ⟨p, 0, none⟩ = some (.func (.func f) #[] #[]) := cell_later hB3 (by go_simp)
  have kq_3 : w3.cell? ⟨q, 0, none⟩ = some (.func (.func g) #[] #[]) := cell_later hB3 (by go_simp)
  have f0_3 : w3.frozen? ⟨w.heap.size + 1 + 1, 0, none⟩ = false := keepFr hB3 (by first | omega | (simp; omega) | simp) (by go_simp)
  have f1_3 : w3.frozen? ⟨w.heap.size + 1 + 1, 1, none⟩ = false := keepFr hB3 (by first | omega | (simp; omega) | simp) (by go_simp)
  have f2_3 : w3.frozen? ⟨w.heap.size + 1 + 1, 2, none⟩ = false := keepFr hB3 (by first | omega | (simp; omega) | simp) (by go_simp)
  have f3_3 : w3.frozen? ⟨w.heap.size + 1 + 1, 3, none⟩ = false := keepFr hB3 (by first | omega | (simp; omega) | simp) (by go_simp)
  have f4_3 : w3.frozen? ⟨w.heap.size + 1 + 1, 4, none⟩ = false := keepFr hB3 (by first | omega | (simp; omega) | simp) (by go_simp)
  have g0_3 : w3.frozen? ⟨w.heap.size + 1 + 1 + 1, 0, none⟩ = false := keepFr hB3 (by first | omega | (simp; omega) | simp) (by go_simp)
  have g1_3 : w3.frozen? ⟨w.heap.size + 1 + 1 + 1, 1, none⟩ = false := keepFr hB3 (by first | omega | (simp; omega) | simp) (by go_simp)
  clear hB3 bl2 z0_2 z1_2 z2_2 z3_2 zp_2 zq_2 a0_2 a1_2 c0_2 c1_2 u0_2 u1_2 kp_2 kq_2 g0_2 g1_2 r0_2 r1_2 r2_2 r3_2 r4_2 f0_2 f1_2 f2_2 f3_2 f4_2
  go_wp2
  refine bodyPost_ret (v := EffV 0 1 true false false) (by simp [results, Try.results80, go_sem, r0_3, r1_3, r2_3, r3_3, r4_3, EffV]) rfl ⟨rfl, ?_⟩
  exact ((bl3).setCell (by simp; try omega) _).setCell (by simp; try omega) _

set_option maxRecDepth 100000 in
set_option maxHeartbeats 4000000 in
theorem pcmp_tf (a b c d x0 x1 y0 y1 u0 u1 v0 v1 : Int) (f g p q : Nat) (w : World) (hpl : p < w.heap.size) (hql : q < w.heap.size) (hp : w.cell? ⟨p, 0, none⟩ = some (.func (.func f) #[] #[])) (hq : w.cell? ⟨q, 0, none⟩ = some (.func (.func g) #[] #[]))
    (ef : ∀ args w, (callFunc f args).run Try.prog w = .ok (.enter f args) w) (eg : ∀ args w, (callFunc g args).run Try.prog w = .ok (.enter g args) w) (F : Narrows f a b c d x0 x1 y0 y1 true) (G : Narrows g a b c d u0 u1 v0 v1 false) (SR : Sure 1 1) :
    Calls Try.prog 80 #[.agg #[.int .i64 a, .int .i64 b], .agg #[.int .i64 c, .int .i64 d], .pointer (some ⟨p, 0, none⟩), .pointer (some ⟨q, 0, none⟩)] w fun e w' => e = .returned (EffV 1 1 true false false) ∧ Below w.heap.size w w' := by
  have hp4 : ∀ o1 o2 o3 o4, ((((w.alloc o1).alloc o2).alloc o3).alloc o4).cell? ⟨p, 0, none⟩ = some (.func (.func f) #[] #[]) := by
    intro o1 o2 o3 o4
    rw [(((((Below.refl w.heap.size w).alloc (Nat.le_refl _) o1).alloc (by simp) o2).alloc (by simp; omega) o3).alloc (by simp; omega) o4).cell (p := ⟨p, 0, none⟩) hpl]
    exact hp
  have hq4 : ∀ o1 o2 o3 o4, ((((w.alloc o1).alloc o2).alloc o3).alloc o4).cell? ⟨q, 0, none⟩ = some (.func (.func g) #[] #[]) := by
    intro o1 o2 o3 o4
    rw [(((((Below.refl w.heap.size w).alloc (Nat.le_refl _) o1).alloc (by simp) o2).alloc (by simp; omega) o3).alloc (by simp; omega) o4).cell (p := ⟨q, 0, none⟩) hql]
    exact hq
  clear hp hq
  go_enter Try.func80, Try.ntmps80
  go_wp2_with fail
  refine (F _).out.mono ?_
  rintro e1 w1 ⟨rfl, hB1⟩
  have z3_1 : w.heap.size + 1 + 1 + 1 < w1.heap.size := by have := hB1.size; simp at this; omega
  have bl1 : Below w.heap.size w w1 := (((((Below.refl _ _).alloc (Nat.le_refl _) _).alloc (by simp) _).alloc (by simp; omega) _).alloc (by simp; omega) _).trans (hB1.mono (by first | omega | (simp; omega) | (simp [World.setCell]; omega) | simp))
  have z2_1 : w.heap.size + 1 + 1 < w1.heap.size := by omega
  have z0_1 : w.heap.size < w1.heap.size := by omega
  have z1_1 : w.heap.size + 1 < w1.heap.size := by omega
  have zp_1 : p < w1.heap.size := by omega
  have zq_1 : q < w1.heap.size := by omega
  have a0_1 : w1.cell? ⟨w.heap.size, 0, none⟩ = some (.int .i64 a) := cell_later hB1 (by go_simp)
  have a1_1 : w1.cell? ⟨w.heap.size, 1, none⟩ = some (.int .i64 b) := cell_later hB1 (by go_simp)
  have c0_1 : w1.cell? ⟨w.heap.size + 1, 0, none⟩ = some (.int .i64 c) := cell_later hB1 (by go_simp)
  have c1_1 : w1.cell? ⟨w.heap.size + 1, 1, none⟩ = some (.int .i64 d) := cell_later hB1 (by go_simp)
  have r0_1 : w1.cell? ⟨w.heap.size + 1 + 1, 0, none⟩ = some (.int .i64 0) := cell_later hB1 (by go_simp)
  have r1_1 : w1.cell? ⟨w.heap.size + 1 + 1, 1, none⟩ = some (.int .i64 0) := cell_later hB1 (by go_simp)
  have r2_1 : w1.cell? ⟨w.heap.size + 1 + 1, 2, none⟩ = some (.bool false) := cell_later hB1 (by go_simp)
  have r3_1 : w1.cell? ⟨w.heap.size + 1 + 1, 3, none⟩ = some (.bool false) := cell_later hB1 (by go_simp)
  have r4_1 : w1.cell? ⟨w.heap.size + 1 + 1, 4, none⟩ = some (.bool false) := cell_later hB1 (by go_simp)
  have u0_1 : w1.cell? ⟨w.heap.size + 1 + 1 + 1, 0, none⟩ = some (.int .i64 0) := cell_later hB1 (by go_simp)
  have u1_1 : w1.cell? ⟨w.heap.size + 1 + 1 + 1, 1, none⟩ = some (.int .i64 1) := cell_later hB1 (by go_simp)
  have kp_1 : w1.cell? ⟨p, 0, none⟩ = some (.func (.func f) #[] #[]) := cell_later hB1 (by go_simp)
  have kq_1 : w1.cell? ⟨q, 0, none⟩ = some (.func (.func g) #[] #[]) := cell_later hB1 (by go_simp)
  have f0_1 : w1.frozen? ⟨w.heap.size + 1 + 1, 0, none⟩ = false := keepFr hB1 (by first | omega | (simp; omega) | simp) (by go_simp)
  have f1_1 : w1.frozen? ⟨w.heap.size + 1 + 1, 1, none⟩ = false := keepFr hB1 (by first | omega | (simp; omega) | simp) (by go_simp)
  have f2_1 : w1.frozen? ⟨w.heap.size + 1 + 1, 2, none⟩ = false := keepFr hB1 (by first | omega | (simp; omega) | simp) (by go_simp)
  have f3_1 : w1.frozen? ⟨w.heap.size + 1 + 1, 3, none⟩ = false := keepFr hB1 (by first | omega | (simp; omega) | simp) (by go_simp)
  have f4_1 : w1.frozen? ⟨w.heap.size + 1 + 1, 4, none⟩ = false := keepFr hB1 (by first | omega | (simp; omega) | simp) (by go_simp)
  have g0_1 : w1.frozen? ⟨w.heap.size + 1 + 1 + 1, 0, none⟩ = false := keepFr hB1 (by first | omega | (simp; omega) | simp) (by go_simp)
  have g1_1 : w1.frozen? ⟨w.heap.size + 1 + 1 + 1, 1, none⟩ = false := keepFr hB1 (by first | omega | (simp; omega) | simp) (by go_simp)
  clear hB1
  go_wp2_with fail
  refine (G _).out.mono ?_
  rintro e2 w2 ⟨rfl, hB2⟩
  have z3_2 : w.heap.size + 1 + 1 + 1 < w2.heap.size := by have := hB2.size; simp at this; omega
  have bl2 : Below w.heap.size w w2 := (((bl1).alloc (by first | omega | (simp; omega) | (simp [World.setCell]; omega) | simp) _).alloc (by first | omega | (simp; omega) | (simp [World.setCell]; omega) | simp) _).trans (hB2.mono (by first | omega | (simp; omega) | (simp [World.setCell]; omega) | simp))
  have z2_2 : w.heap.size + 1 + 1 < w2.heap.size := by omega
  have z0_2 : w.heap.size < w2.heap.size := by omega
  have z1_2 : w.heap.size + 1 < w2.heap.size := by omega
  have zp_2 : p < w2.heap.size := by omega
  have zq_2 : q < w2.heap.size := by omega
  have a0_2 : w2.cell? ⟨w.heap.size, 0, none⟩ = some (.int .i64 a) := cell_later hB2 (by go_simp)
  have a1_2 : w2.cell? ⟨w.heap.size, 1, none⟩ = some (.int .i64 b) := cell_later hB2 (by go_simp)
  have c0_2 : w2.cell? ⟨w.heap.size + 1, 0, none⟩ = some (.int .i64 c) := cell_later hB2 (by go_simp)
  have c1_2 : w2.cell? ⟨w.heap.size + 1, 1, none⟩ = some (.int .i64 d) := cell_later hB2 (by go_simp)
  have r0_2 : w2.cell? ⟨w.heap.size + 1 + 1, 0, none⟩ = some (.int .i64 0) := cell_later hB2 (by go_simp)
  have r1_2 : w2.cell? ⟨w.heap.size + 1 + 1, 1, none⟩ = some (.int .i64 0) := cell_later hB2 (by go_simp)
  have r2_2 : w2.cell? ⟨w.heap.size + 1 + 1, 2, none⟩ = some (.bool false) := cell_later hB2 (by go_simp)
  have r3_2 : w2.cell? ⟨w.heap.size + 1 + 1, 3, none⟩ = some (.bool false) := cell_later hB2 (by go_simp)
  have r4_2 : w2.cell? ⟨w.heap.size + 1 + 1, 4, none⟩ = some (.bool false) := cell_later hB2 (by go_simp)
  have u0_2 : w2.cell? ⟨w.heap.size + 1 + 1 + 1, 0, none⟩ = some (.int .i64 0) := cell_later hB2 (by go_simp)
  have u1_2 : w2.cell? ⟨w.heap.size + 1 + 1 + 1, 1, none⟩ = some (.int .i64 1) := cell_later hB2 (by go_simp)
  have kp_2 : w2.cell? ⟨p, 0, none⟩ = some (.func (.func f) #[] #[]) := cell_later hB2 (by go_simp)
  have kq_2 : w2.cell? ⟨q, 0, none⟩ = some (.func (.func g) #[] #[]) := cell_later hB2 (by go_simp)
  have f0_2 : w2.frozen? ⟨w.heap.size + 1 + 1, 0, none⟩ = false := keepFr hB2 (by first | omega | (simp; omega) | simp) (by go_simp)
  have f1_2 : w2.frozen? ⟨w.heap.size + 1 + 1, 1, none⟩ = false := keepFr hB2 (by first | omega | (simp; omega) | simp) (by go_simp)
  have f2_2 : w2.frozen? ⟨w.heap.size + 1 + 1, 2, none⟩ = false := keepFr hB2 (by first | omega | (simp; omega) | simp) (by go_simp)
  have f3_2 : w2.frozen? ⟨w.heap.size + 1 + 1, 3, none⟩ = false := keepFr hB2 (by first | omega | (simp; omega) | simp) (by go_simp)
  have f4_2 : w2.frozen? ⟨w.heap.size + 1 + 1, 4, none⟩ = false := keepFr hB2 (by first | omega | (simp; omega) | simp) (by go_simp)
  have g0_2 : w2.frozen? ⟨w.heap.size + 1 + 1 + 1, 0, none⟩ = false := keepFr hB2 (by first | omega | (simp; omega) | simp) (by go_simp)
  have g1_2 : w2.frozen? ⟨w.heap.size + 1 + 1 + 1, 1, none⟩ = false := keepFr hB2 (by first | omega | (simp; omega) | simp) (by go_simp)
  clear hB2 bl1 z0_1 z1_1 z2_1 z3_1 zp_1 zq_1 a0_1 a1_1 c0_1 c1_1 u0_1 u1_1 kp_1 kq_1 g0_1 g1_1 r0_1 r1_1 r2_1 r3_1 r4_1 f0_1 f1_1 f2_1 f3_1 f4_1
  go_wp2_with fail
  refine (SR _).out.mono ?_
  rintro e3 w3 ⟨rfl, hB3⟩
  have z3_3 : w.heap.size + 1 + 1 + 1 < w3.heap.size := by have := hB3.size; simp at this; omega
  have bl3 : Below w.heap.size w w3 := ((((bl2).setCell (by first | omega | (simp; omega) | (simp [World.setCell]; omega) | simp) _).alloc (by first | omega | (simp; omega) | (simp [World.setCell]; omega) | simp) _).alloc (by first | omega | (simp; omega) | (simp [World.setCell]; omega) | simp) _).trans (hB3.mono (by first | omega | (simp; omega) | (simp [World.setCell]; omega) | simp))
  have z2_3 : w.heap.size + 1 + 1 < w3.heap.size := by omega
  have z0_3 : w.heap.size < w3.heap.size := by omega
  have z1_3 : w.heap.size + 1 < w3.heap.size := by omega
  have zp_3 : p < w3.heap.size := by omega
  have zq_3 : q < w3.heap.size := by omega
  have a0_3 : w3.cell? ⟨w.heap.size, 0, none⟩ = some (.int .i64 a) := cell_later hB3 (by go_simp)
  have a1_3 : w3.cell? ⟨w.heap.size, 1, none⟩ = some (.int .i64 b) := cell_later hB3 (by go_simp)
  have c0_3 : w3.cell? ⟨w.heap.size + 1, 0, none⟩ = some (.int .i64 c) := cell_later hB3 (by go_simp)
  have c1_3 : w3.cell? ⟨w.heap.size + 1, 1, none⟩ = some (.int .i64 d) := cell_later hB3 (by go_simp)
  have r0_3 : w3.cell? ⟨w.heap.size + 1 + 1, 0, none⟩ = some (.int .i64 0) := cell_later hB3 (by go_simp)
  have r1_3 : w3.cell? ⟨w.heap.size + 1 + 1, 1, none⟩ = some (.int .i64 0) := cell_later hB3 (by go_simp)
  have r2_3 : w3.cell? ⟨w.heap.size + 1 + 1, 2, none⟩ = some (.bool false) := cell_later hB3 (by go_simp)
  have r3_3 : w3.cell? ⟨w.heap.size + 1 + 1, 3, none⟩ = some (.bool false) := cell_later hB3 (by go_simp)
  have r4_3 : w3.cell? ⟨w.heap.size + 1 + 1, 4, none⟩ = some (.bool false) := cell_later hB3 (by go_simp)
  have u0_3 : w3.cell? ⟨w.heap.size + 1 + 1 + 1, 0, none⟩ = some (.int .i64 1) := cell_later hB3 (by go_simp)
  have u1_3 : w3.cell? ⟨w.heap.size + 1 + 1 + 1, 1, none⟩ = some (.int .i64 1) := cell_later hB3 (by go_simp)
  have kp_3 : w3.cell? ⟨p, 0, none⟩ = some (.func (.func f) #[] #[]) := cell_later hB3 (by go_simp)
  have kq_3 : w3.cell? ⟨q, 0, none⟩ = some (.func (.func g) #[] #[]) := cell_later hB3 (by go_simp)
  have f0_3 : w3.frozen? ⟨w.heap.size + 1 + 1, 0, none⟩ = false := keepFr hB3 (by first | omega | (simp; omega) | simp) (by go_simp)
  have f1_3 : w3.frozen? ⟨w.heap.size + 1 + 1, 1, none⟩ = false := keepFr hB3 (by first | omega | (simp; omega) | simp) (by go_simp)
  have f2_3 : w3.frozen? ⟨w.heap.size + 1 + 1, 2, none⟩ = false := keepFr hB3 (by first | omega | (simp; omega) | simp) (by go_simp)
  have f3_3 : w3.frozen? ⟨w.heap.size + 1 + 1, 3, none⟩ = false := keepFr hB3 (by first | omega | (simp; omega) | simp) (by go_simp)
  have f4_3 : w3.frozen? ⟨w.heap.size + 1 + 1, 4, none⟩ = false := keepFr hB3 (by first | omega | (simp; omega) | simp) (by go_simp)
  have g0_3 : w3.frozen? ⟨w.heap.size + 1 + 1 + 1, 0, none⟩ = false := keepFr hB3 (by first | omega | (simp; omega) | simp) (by go_simp)
  have g1_3 : w3.frozen? ⟨w.heap.size + 1 + 1 + 1, 1, none⟩ = false := keepFr hB3 (by first | omega | (simp; omega) | simp) (by go_simp)
  clear hB3 bl2 z0_2 z1_2 z2_2 z3_2 zp_2 zq_2 a0_2 a1_2 c0_2 c1_2 u0_2 u1_2 kp_2 kq_2 g0_2 g1_2 r0_2 r1_2 r2_2 r3_2 r4_2 f0_2 f1_2 f2_2 f3_2 f4_2
  go_wp2
  refine bodyPost_ret (v := EffV 1 1 true false false) (by simp [results, Try.results80, go_sem, r0_3, r1_3, r2_3, r3_3, r4_3, EffV]) rfl ⟨rfl, ?_⟩
  exact (((bl3).setCell (by simp; try omega) _).setCell (by simp; try omega) _).setCell (by simp; try omega) _

set_option maxRecDepth 100000 in
set_option maxHeartbeats 4000000 in
theorem pcmp_ft (a b c d x0 x1 y0 y1 u0 u1 v0 v1 : Int) (f g p q : Nat) (w : World) (hpl : p < w.heap.size) (hql : q < w.heap.size) (hp : w.cell? ⟨p, 0, none⟩ = some (.func (.func f) #[] #[])) (hq : w.cell? ⟨q, 0, none⟩ = some (.func (.func g) #[] #[]))
    (ef : ∀ args w, (callFunc f args).run Try.prog w = .ok (.enter f args) w) (eg : ∀ args w, (callFunc g args).run Try.prog w = .ok (.enter g args) w) (F : Narrows f a b c d x0 x1 y0 y1 false) (G : Narrows g a b c d u0 u1 v0 v1 true) (SR : Sure 0 0) :
    Calls Try.prog 80 #[.agg #[.int .i64 a, .int .i64 b], .agg #[.int .i64 c, .int .i64 d], .pointer (some ⟨p, 0, none⟩), .pointer (some ⟨q, 0, none⟩)] w fun e w' => e = .returned (EffV 0 0 true false false) ∧ Below w.heap.size w w' := by
  have hp4 : ∀ o1 o2 o3 o4, ((((w.alloc o1).alloc o2).alloc o3).alloc o4).cell? ⟨p, 0, none⟩ = some (.func (.func f) #[] #[]) := by
    intro o1 o2 o3 o4
    rw [(((((Below.refl w.heap.size w).alloc (Nat.le_refl _) o1).alloc (by simp) o2).alloc (by simp; omega) o3).alloc (by simp; omega) o4).cell (p := ⟨p, 0, none⟩) hpl]
    exact hp
  have hq4 : ∀ o1 o2 o3 o4, ((((w.alloc o1).alloc o2).alloc o3).alloc o4).cell? ⟨q, 0, none⟩ = some (.func (.func g) #[] #[]) := by
    intro o1 o2 o3 o4
    rw [(((((Below.refl w.heap.size w).alloc (Nat.le_refl _) o1).alloc (by simp) o2).alloc (by simp; omega) o3).alloc (by simp; omega) o4).cell (p := ⟨q, 0, none⟩) hql]
    exact hq
  clear hp hq
  go_enter Try.func80, Try.ntmps80
  go_wp2_with fail
  refine (F _).out.mono ?_
  rintro e1 w1 ⟨rfl, hB1⟩
  have z3_1 : w.heap.size + 1 + 1 + 1 < w1.heap.size := by have := hB1.size; simp at this; omega
  have bl1 : Below w.heap.size w w1 := (((((Below.refl _ _).alloc (Nat.le_refl _) _).alloc (by simp) _).alloc (by simp; omega) _).alloc (by simp; omega) _).trans (hB1.mono (by first | omega | (simp; omega) | (simp [World.setCell]; omega) | simp))
  have z2_1 : w.heap.size + 1 + 1 < w1.heap.size := by omega
  have z0_1 : w.heap.size < w1.heap.size := by omega
  have z1_1 : w.heap.size + 1 < w1.heap.size := by omega
  have zp_1 : p < w1.heap.size := by omega
  have zq_1 : q < w1.heap.size := by omega
  have a0_1 : w1.cell? ⟨w.heap.size, 0, none⟩ = some (.int .i64 a) := cell_later hB1 (by go_simp)
  have a1_1 : w1.cell? ⟨w.heap.size, 1, none⟩ = some (.int .i64 b) := cell_later hB1 (by go_simp)
  have c0_1 : w1.cell? ⟨w.heap.size + 1, 0, none⟩ = some (.int .i64 c) := cell_later hB1 (by go_simp)
  have c1_1 : w1.cell? ⟨w.heap.size + 1, 1, none⟩ = some (.int .i64 d) := cell_later hB1 (by go_simp)
  have r0_1 : w1.cell? ⟨w.heap.size + 1 + 1, 0, none⟩ = some (.int .i64 0) := cell_later hB1 (by go_simp)
  have r1_1 : w1.cell? ⟨w.heap.size + 1 + 1, 1, none⟩ = some (.int .i64 0) := cell_later hB1 (by go_simp)
  have r2_1 : w1.cell? ⟨w.heap.size + 1 + 1, 2, none⟩ = some (.bool false) := cell_later hB1 (by go_simp)
  have r3_1 : w1.cell? ⟨w.heap.size + 1 + 1, 3, none⟩ = some (.bool false) := cell_later hB1 (by go_simp)
  have r4_1 : w1.cell? ⟨w.heap.size + 1 + 1, 4, none⟩ = some (.bool false) := cell_later hB1 (by go_simp)
  have u0_1 : w1.cell? ⟨w.heap.size + 1 + 1 + 1, 0, none⟩ = some (.int .i64 0) := cell_later hB1 (by go_simp)
  have u1_1 : w1.cell? ⟨w.heap.size + 1 + 1 + 1, 1, none⟩ = some (.int .i64 1) := cell_later hB1 (by go_simp)
  have kp_1 : w1.cell? ⟨p, 0, none⟩ = some (.func (.func f) #[] #[]) := cell_later hB1 (by go_simp)
  have kq_1 : w1.cell? ⟨q, 0, none⟩ = some (.func (.func g) #[] #[]) := cell_later hB1 (by go_simp)
  have f0_1 : w1.frozen? ⟨w.heap.size + 1 + 1, 0, none⟩ = false := keepFr hB1 (by first | omega | (simp; omega) | simp) (by go_simp)
  have f1_1 : w1.frozen? ⟨w.heap.size + 1 + 1, 1, none⟩ = false := keepFr hB1 (by first | omega | (simp; omega) | simp) (by go_simp)
  have f2_1 : w1.frozen? ⟨w.heap.size + 1 + 1, 2, none⟩ = false := keepFr hB1 (by first | omega | (simp; omega) | simp) (by go_simp)
  have f3_1 : w1.frozen? ⟨w.heap.size + 1 + 1, 3, none⟩ = false := keepFr hB1 (by first | omega | (simp; omega) | simp) (by go_simp)
  have f4_1 : w1.frozen? ⟨w.heap.size + 1 + 1, 4, none⟩ = false := keepFr hB1 (by first | omega | (simp; omega) | simp) (by go_simp)
  have g0_1 : w1.frozen? ⟨w.heap.size + 1 + 1 + 1, 0, none⟩ = false := keepFr hB1 (by first | omega | (simp; omega) | simp) (by go_simp)
  have g1_1 : w1.frozen? ⟨w.heap.size + 1 + 1 + 1, 1, none⟩ = false := keepFr hB1 (by first | omega | (simp; omega) | simp) (by go_simp)
  clear hB1
  go_wp2_with fail
  refine (G _).out.mono ?_
  rintro e2 w2 ⟨rfl, hB2⟩
  have z3_2 : w.heap.size + 1 + 1 + 1 < w2.heap.size := by have := hB2.size; simp at this; omega
  have bl2 : Below w.heap.size w w2 := ((((bl1).setCell (by first | omega | (simp; omega) | (simp [World.setCell]; omega) | simp) _).alloc (by first | omega | (simp; omega) | (simp [World.setCell]; omega) | simp) _).alloc (by first | omega | (simp; omega) | (simp [World.setCell]; omega) | simp) _).trans (hB2.mono (by first | omega | (simp; omega) | (simp [World.setCell]; omega) | simp))
  have z2_2 : w.heap.size + 1 + 1 < w2.heap.size := by omega
  have z0_2 : w.heap.size < w2.heap.size := by omega
  have z1_2 : w.heap.size + 1 < w2.heap.size := by omega
  have zp_2 : p < w2.heap.size := by omega
  have zq_2 : q < w2.heap.size := by omega
  have a0_2 : w2.cell? ⟨w.heap.size, 0, none⟩ = some (.int .i64 a) := cell_later hB2 (by go_simp)
  have a1_2 : w2.cell? ⟨w.heap.size, 1, none⟩ = some (.int .i64 b) := cell_later hB2 (by go_simp)
  have c0_2 : w2.cell? ⟨w.heap.size + 1, 0, none⟩ = some (.int .i64 c) := cell_later hB2 (by go_simp)
  have c1_2 : w2.cell? ⟨w.heap.size + 1, 1, none⟩ = some (.int .i64 d) := cell_later hB2 (by go_simp)
  have r0_2 : w2.cell? ⟨w.heap.size + 1 + 1, 0, none⟩ = some (.int .i64 0) := cell_later hB2 (by go_simp)
  have r1_2 : w2.cell? ⟨w.heap.size + 1 + 1, 1, none⟩ = some (.int .i64 0) := cell_later hB2 (by go_simp)
  have r2_2 : w2.cell? ⟨w.heap.size + 1 + 1, 2, none⟩ = some (.bool false) := cell_later hB2 (by go_simp)
  have r3_2 : w2.cell? ⟨w.heap.size + 1 + 1, 3, none⟩ = some (.bool false) := cell_later hB2 (by go_simp)
  have r4_2 : w2.cell? ⟨w.heap.size + 1 + 1, 4, none⟩ = some (.bool false) := cell_later hB2 (by go_simp)
  have u0_2 : w2.cell? ⟨w.heap.size + 1 + 1 + 1, 0, none⟩ = some (.int .i64 0) := cell_later hB2 (by go_simp)
  have u1_2 : w2.cell? ⟨w.heap.size + 1 + 1 + 1, 1, none⟩ = some (.int .i64 0) := cell_later hB2 (by go_simp)
  have kp_2 : w2.cell? ⟨p, 0, none⟩ = some (.func (.func f) #[] #[]) := cell_later hB2 (by go_simp)
  have kq_2 : w2.cell? ⟨q, 0, none⟩ = some (.func (.func g) #[] #[]) := cell_later hB2 (by go_simp)
  have f0_2 : w2.frozen? ⟨w.heap.size + 1 + 1, 0, none⟩ = false := keepFr hB2 (by first | omega | (simp; omega) | simp) (by go_simp)
  have f1_2 : w2.frozen? ⟨w.heap.size + 1 + 1, 1, none⟩ = false := keepFr hB2 (by first | omega | (simp; omega) | simp) (by go_simp)
  have f2_2 : w2.frozen? ⟨w.heap.size + 1 + 1, 2, none⟩ = false := keepFr hB2 (by first | omega | (simp; omega) | simp) (by go_simp)
  have f3_2 : w2.frozen? ⟨w.heap.size + 1 + 1, 3, none⟩ = false := keepFr hB2 (by first | omega | (simp; omega) | simp) (by go_simp)
  have f4_2 : w2.frozen? ⟨w.heap.size + 1 + 1, 4, none⟩ = false := keepFr hB2 (by first | omega | (simp; omega) | simp) (by go_simp)
  have g0_2 : w2.frozen? ⟨w.heap.size + 1 + 1 + 1, 0, none⟩ = false := keepFr hB2 (by first | omega | (simp; omega) | simp) (by go_simp)
  have g1_2 : w2.frozen? ⟨w.heap.size + 1 + 1 + 1, 1, none⟩ = false := keepFr hB2 (by first | omega | (simp; omega) | simp) (by go_simp)
  clear hB2 bl1 z0_1 z1_1 z2_1 z3_1 zp_1 zq_1 a0_1 a1_1 c0_1 c1_1 u0_1 u1_1 kp_1 kq_1 g0_1 g1_1 r0_1 r1_1 r2_1 r3_1 r4_1 f0_1 f1_1 f2_1 f3_1 f4_1
  go_wp2_with fail
  refine (SR _).out.mono ?_
  rintro e3 w3 ⟨rfl, hB3⟩
  have z3_3 : w.heap.size + 1 + 1 + 1 < w3.heap.size := by have := hB3.size; simp at this; omega
  have bl3 : Below w.heap.size w w3 := (((bl2).alloc (by first | omega | (simp; omega) | (simp [World.setCell]; omega) | simp) _).alloc (by first | omega | (simp; omega) | (simp [World.setCell]; omega) | simp) _).trans (hB3.mono (by first | omega | (simp; omega) | (simp [World.setCell]; omega) | simp))
  have z2_3 : w.heap.size + 1 + 1 < w3.heap.size := by omega
  have z0_3 : w.heap.size < w3.heap.size := by omega
  have z1_3 : w.heap.size + 1 < w3.heap.size := by omega
  have zp_3 : p < w3.heap.size := by omega
  have zq_3 : q < w3.heap.size := by omega
  have a0_3 : w3.cell? ⟨w.heap.size, 0, none⟩ = some (.int .i64 a) := cell_later hB3 (by go_simp)
  have a1_3 : w3.cell? ⟨w.heap.size, 1, none⟩ = some (.int .i64 b) := cell_later hB3 (by go_simp)
  have c0_3 : w3.cell? ⟨w.heap.size + 1, 0, none⟩ = some (.int .i64 c) := cell_later hB3 (by go_simp)
  have c1_3 : w3.cell? ⟨w.heap.size + 1, 1, none⟩ = some (.int .i64 d) := cell_later hB3 (by go_simp)
  have r0_3 : w3.cell? ⟨w.heap.size + 1 + 1, 0, none⟩ = some (.int .i64 0) := cell_later hB3 (by go_simp)
  have r1_3 : w3.cell? ⟨w.heap.size + 1 + 1, 1, none⟩ = some (.int .i64 0) := cell_later hB3 (by go_simp)
  have r2_3 : w3.cell? ⟨w.heap.size + 1 + 1, 2, none⟩ = some (.bool false) := cell_later hB3 (by go_simp)
  have r3_3 : w3.cell? ⟨w.heap.size + 1 + 1, 3, none⟩ = some (.bool false) := cell_later hB3 (by go_simp)
  have r4_3 : w3.cell? ⟨w.heap.size + 1 + 1, 4, none⟩ = some (.bool false) := cell_later hB3 (by go_simp)
  have u0_3 : w3.cell? ⟨w.heap.size + 1 + 1 + 1, 0, none⟩ = some (.int .i64 0) := cell_later hB3 (by go_simp)
  have u1_3 : w3.cell? ⟨w.heap.size + 1 + 1 + 1, 1, none⟩ = some (.int .i64 0) := cell_later hB3 (by go_simp)
  have kp_3 : w3.cell? ⟨p, 0, none⟩ = some (.func (.func f) #[] #[]) := cell_later hB3 (by go_simp)
  have kq_3 : w3.cell? ⟨q, 0, none⟩ = some (.func (.func g) #[] #[]) := cell_later hB3 (by go_simp)
  have f0_3 : w3.frozen? ⟨w.heap.size + 1 + 1, 0, none⟩ = false := keepFr hB3 (by first | omega | (simp; omega) | simp) (by go_simp)
  have f1_3 : w3.frozen? ⟨w.heap.size + 1 + 1, 1, none⟩ = false := keepFr hB3 (by first | omega | (simp; omega) | simp) (by go_simp)
  have f2_3 : w3.frozen? ⟨w.heap.size + 1 + 1, 2, none⟩ = false := keepFr hB3 (by first | omega | (simp; omega) | simp) (by go_simp)
  have f3_3 : w3.frozen? ⟨w.heap.size + 1 + 1, 3, none⟩ = false := keepFr hB3 (by first | omega | (simp; omega) | simp) (by go_simp)
  have f4_3 : w3.frozen? ⟨w.heap.size + 1 + 1, 4, none⟩ = false := keepFr hB3 (by first | omega | (simp; omega) | simp) (by go_simp)
  have g0_3 : w3.frozen? ⟨w.heap.size + 1 + 1 + 1, 0, none⟩ = false := keepFr hB3 (by first | omega | (simp; omega) | simp) (by go_simp)
  have g1_3 : w3.frozen? ⟨w.heap.size + 1 + 1 + 1, 1, none⟩ = false := keepFr hB3 (by first | omega | (simp; omega) | simp) (by go_simp)
  clear hB3 bl2 z0_2 z1_2 z2_2 z3_2 zp_2 zq_2 a0_2 a1_2 c0_2 c1_2 u0_2 u1_2 kp_2 kq_2 g0_2 g1_2 r0_2 r1_2 r2_2 r3_2 r4_2 f0_2 f1_2 f2_2 f3_2 f4_2
  go_wp2
  refine bodyPost_ret (v := EffV 0 0 true false false) (by simp [results, Try.results80, go_sem, r0_3, r1_3, r2_3, r3_3, r4_3, EffV]) rfl ⟨rfl, ?_⟩
  exact (bl3).setCell (by simp; try omega) _

end Go.Proofs.Ytgkhldbnljdeiaa

/- compared of layer 4, and binaryOf where the operator is a comparison. -/
namespace Go.Proofs.Ytgkhldbnljdeiaa
open Go.RowKit RangesMath
attribute [local go_sem] World.setCell_self

/-- An operator made of two narrowings, which lie in two cells. -/
def CmpFn (f g : Nat) (w : World) (v : Value) (w' : World) : Prop := ∃ p q, v = .func (.func 80) #[] #[.pointer (some ⟨p, 0, none⟩), .pointer (some ⟨q, 0, none⟩)] ∧ p < w'.heap.size ∧ q < w'.heap.size ∧ w'.cell? ⟨p, 0, none⟩ = some (.func (.func f) #[] #[]) ∧ w'.cell? ⟨q, 0, none⟩ = some (.func (.func g) #[] #[]) ∧ Below w.heap.size w w'

set_option maxRecDepth 100000 in
set_option maxHeartbeats 2000000 in
theorem pcompared (f g : Nat) (w : World) : Calls Try.prog 58 #[.func (.func f) #[] #[], .func (.func g) #[] #[]] w fun e w' => ∃ v, e = .returned v ∧ CmpFn f g w v w' := by
  go_enter Try.func58, Try.ntmps58
  go_wp2
  go_ret
  exact ⟨_, rfl, w.heap.size, w.heap.size + 1, rfl, by simp; omega, by simp, by go_simp, by go_simp, ((Below.refl _ _).alloc (Nat.le_refl _) _).alloc (by simp) _⟩

def BofCmp (f g : Nat) (w : World) (e : Ending) (w' : World) : Prop := ∃ v, e = .returned (.tuple #[v, .bool true]) ∧ CmpFn f g w v w'

set_option maxRecDepth 100000 in
set_option maxHeartbeats 4000000 in
theorem pbof_cmp (op op' k : Int) (f g : Nat) (w : World) (C : ∀ w, Hid (Calls Try.prog 45 #[.int .i64 k] w (CompOut [(op, fnV f), (op', fnV g)] w))) (OP : ∀ w, Hid (Calls Try.prog 46 #[.int .i64 op] w fun e w' => e = .returned (.int .i64 op') ∧ w = w')) (CM : ∀ w, Hid (Calls Try.prog 58 #[.func (.func f) #[] #[], .func (.func g) #[] #[]] w fun e w' => ∃ v, e = .returned v ∧ CmpFn f g w v w')) :
    Calls Try.prog 37 #[.int .i64 op, .int .i64 k] w (BofCmp f g w) := by
  have q0 := run_neq_fn
  go_enter Try.func37, Try.ntmps37
  go_wp2_with fail
  refine (C _).out.mono ?_
  rintro e w1 ⟨m, rfl, hb1, hM⟩
  have M0 := Lib.hid (hM _ (List.mem_cons_self ..))
  have M1 := Lib.hid (hM _ (List.mem_cons_of_mem _ (List.mem_singleton.2 rfl)))
  have L := M0.out w1 (Below.refl _ _)
  dsimp only [fnV] at L
  clear hM
  go_wp2_with fail
  clear L
  refine wp_region_held_drew (S := fun w' => Below w1.heap.size w1 w') (by kernel_rfl) (Below.refl _ _).drew (fun hHeld => ?_)
  refine wpAnyH_take (i := 0) (v := ?_) rfl (by kernel_rfl) (by kernel_rfl) (by kernel_rfl) (fun _ _ _ h => h) (Or.inl ⟨by rfl, ?_⟩) (by assumption) ?_
  rotate_left
  focus (intro w' hSw; (try dsimp only at hSw); have L0 := M0.out w' hSw; have L1 := M1.out w' hSw; dsimp only [fnV] at L0 L1; go_simp; try with_reducible rfl)
  try simp only [Act.put, List.getElem_toArray, List.getElem_cons_succ, List.getElem_cons_zero, List.setIfInBounds_toArray, List.set_cons_zero, List.set_cons_succ]
  refine wpAnyH_take (i := 1) (v := ?_) rfl (by kernel_rfl) (by kernel_rfl) (by kernel_rfl) (fun _ _ _ h => h) (Or.inl ⟨by rfl, ?_⟩) (by assumption) ?_
  rotate_left
  focus (intro w' hSw; (try dsimp only at hSw); have L0 := M0.out w' hSw; have L1 := M1.out w' hSw; dsimp only [fnV] at L0 L1; go_simp; try with_reducible rfl)
  try simp only [Act.put, List.getElem_toArray, List.getElem_cons_succ, List.getElem_cons_zero, List.setIfInBounds_toArray, List.set_cons_zero, List.set_cons_succ]
  refine wpAnyH_take (i := 2) (v := ?_) rfl (by kernel_rfl) (by kernel_rfl) (by kernel_rfl) (fun _ _ _ h => h) (Or.inl ⟨by rfl, ?_⟩) (by assumption) ?_
  rotate_left
  focus (intro w' hSw; (try dsimp only at hSw); have L0 := M0.out w' hSw; have L1 := M1.out w' hSw; dsimp only [fnV] at L0 L1; go_simp; try with_reducible rfl)
  try simp only [Act.put, List.getElem_toArray, List.getElem_cons_succ, List.getElem_cons_zero, List.setIfInBounds_toArray, List.set_cons_zero, List.set_cons_succ]
  refine wpAnyH_take (i := 3) (v := ?_) rfl (by kernel_rfl) (by kernel_rfl) (by kernel_rfl) (fun _ _ _ h => h) (Or.inl ⟨by rfl, ?_⟩) (by assumption) ?_
  rotate_left
  focus (intro w' hSw; (try dsimp only at hSw); have L0 := M0.out w' hSw; have L1 := M1.out w' hSw; dsimp only [fnV] at L0 L1; go_simp; try with_reducible rfl)
  try simp only [Act.put, List.getElem_toArray, List.getElem_cons_succ, List.getElem_cons_zero, List.setIfInBounds_toArray, List.set_cons_zero, List.set_cons_succ]
  refine wpAnyH_take (i := 4) (v := ?_) rfl (by kernel_rfl) (by kernel_rfl) (by kernel_rfl) (fun _ _ _ h => h) (Or.inl ⟨by rfl, ?_⟩) (by assumption) ?_
  rotate_left
  focus (intro w' hSw; (try dsimp only at hSw); have L0 := M0.out w' hSw; have L1 := M1.out w' hSw; dsimp only [fnV] at L0 L1; go_simp; try with_reducible rfl)
  try simp only [Act.put, List.getElem_toArray, List.getElem_cons_succ, List.getElem_cons_zero, List.setIfInBounds_toArray, List.set_cons_zero, List.set_cons_succ]
  refine wpAnyH_ready (rs := [5]) (by kernel_rfl) (by simp) ?_
  refine AllReadyH.cons rfl (fun K hK => ?_) AllReadyH.nil
  go_simp
  go_at_call 46
  refine (OP _).out.mono ?_
  rintro e5 w5 ⟨rfl, rfl⟩
  go_wp2_with fail
  refine hK.out _ _ (Below.refl _ _).drew (fun hHeld => ?_)
  clear hK K
  try simp only [Act.put, List.getElem_toArray, List.getElem_cons_succ, List.getElem_cons_zero, List.setIfInBounds_toArray, List.set_cons_zero, List.set_cons_succ]
  refine wpAnyH_take (i := 6) (v := ?_) rfl (by kernel_rfl) (by kernel_rfl) (by kernel_rfl) (fun _ _ _ h => h) (Or.inl ⟨by rfl, ?_⟩) (by assumption) ?_
  rotate_left
  focus (intro w' hSw; (try dsimp only at hSw); have L0 := M0.out w' hSw; have L1 := M1.out w' hSw; dsimp only [fnV] at L0 L1; go_simp; try with_reducible rfl)
  try simp only [Act.put, List.getElem_toArray, List.getElem_cons_succ, List.getElem_cons_zero, List.setIfInBounds_toArray, List.set_cons_zero, List.set_cons_succ]
  refine wpAnyH_ready (rs := [7]) (by kernel_rfl) (by simp) ?_
  refine AllReadyH.cons rfl (fun K hK => ?_) AllReadyH.nil
  go_simp
  go_at_call 58
  refine (CM _).out.mono ?_
  rintro e7 w7 ⟨v, rfl, p, q, rfl, hp, hq, cp, cq, hB⟩
  go_wp2_with fail
  refine hK.out _ _ ((Below.refl w1.heap.size w1).drew.trans (hB.mono (by simp))) (fun hHeld => ?_)
  clear hK K
  try simp only [Act.put, List.getElem_toArray, List.getElem_cons_succ, List.getElem_cons_zero, List.setIfInBounds_toArray, List.set_cons_zero, List.set_cons_succ]
  refine wpAnyH_take (i := 8) (v := ?_) rfl (by kernel_rfl) (by kernel_rfl) (by kernel_rfl) (fun _ _ _ h => h) (Or.inl ⟨by rfl, ?_⟩) (by assumption) ?_
  rotate_left
  focus (intro w' hSw; (try dsimp only at hSw); have L0 := M0.out w' hSw; have L1 := M1.out w' hSw; dsimp only [fnV] at L0 L1; go_simp; try with_reducible rfl)
  try simp only [Act.put, List.getElem_toArray, List.getElem_cons_succ, List.getElem_cons_zero, List.setIfInBounds_toArray, List.set_cons_zero, List.set_cons_succ]
  refine wpAnyH_take (i := 9) (v := ?_) rfl (by kernel_rfl) (by kernel_rfl) (by kernel_rfl) (fun _ _ _ h => h) (Or.inl ⟨by rfl, ?_⟩) (by assumption) ?_
  rotate_left
  focus (intro w' hSw; (try dsimp only at hSw); have L0 := M0.out w' hSw; have L1 := M1.out w' hSw; dsimp only [fnV] at L0 L1; go_simp; try with_reducible rfl)
  try simp only [Act.put, List.getElem_toArray, List.getElem_cons_succ, List.getElem_cons_zero, List.setIfInBounds_toArray, List.set_cons_zero, List.set_cons_succ]
  refine wpAnyH_done (by kernel_rfl) ?_ _
  go_wp2
  go_ret2
  exact ⟨_, rfl, p, q, rfl, hp, hq, cp, cq, hb1.trans (((Below.refl w1.heap.size w1).drew.trans (hB.mono (by simp))).mono hb1.size)⟩

end Go.Proofs.Ytgkhldbnljdeiaa

/- The comparisons of layer 4: what Binary makes of them is what binS says. -/
namespace Go.Proofs.Ytgkhldbnljdeiaa
open Go.RowKit RangesMath Go.MapKept

theorem narS_p (op a b c d : Int) : (narS op a b c d).p = (leftS op a b c d).p := by
  unfold narS
  cases h : (leftS op a b c d).p <;> simp [h]
theorem left_p12 (a b c d : Int) (h1 : a ≤ b) (h2 : c ≤ d) : (neLeft a b c d).p = !(a == b && a == c && b == d) := by
  by_cases e : a = b ∧ a = c ∧ b = d
  · obtain ⟨rfl, rfl, rfl⟩ := e
    simp [neLeft, woLow, woHigh]
  · have r : (a == b && a == c && b == d) = false := by
      rw [Bool.eq_false_iff]
      simp only [ne_eq, Bool.and_eq_true, beq_iff_eq]
      omega
    rw [r]
    unfold neLeft woLow woHigh
    simp only [beq_iff_eq, Bool.not_false, Bool.and_eq_true, decide_eq_true_eq]
    constructor <;> (repeat' split) <;> omega
/-- What a comparison leaves says what it makes. -/
theorem comp_of (op a b c d : Int) (o1 : 11 ≤ op) (o2 : op ≤ 16) (h : Ok64 a b) (g : Ok64 c d) :
    compS op a b c d = (if (leftS (oppS op) a b c d).p then 0 else 1, if (leftS op a b c d).p then 1 else 0) ∧ ((leftS (oppS op) a b c d).p = true ∨ (leftS op a b c d).p = true) := by
  have l1 := h.le
  have l2 := g.le
  have b1 := h.lo
  have b2 := h.hi
  have b3 := g.lo
  have b4 := g.hi
  have e11 : (leftS 11 a b c d).p = decide (max a c ≤ min b d) := by
    show (eqLeft a b c d).p = _
    unfold eqLeft
    split
    · rename_i h; simp [h]
    · rename_i h; simp [h]
  have e12 : (leftS 12 a b c d).p = !(a == b && a == c && b == d) := left_p12 a b c d l1 l2
  have lt : ∀ a b c d : Int, -9223372036854775808 ≤ a → a ≤ 9223372036854775807 → d ≤ 9223372036854775807 → (ltLeft a b c d).p = decide (a < d) ∨ d = -9223372036854775808 := by
    intro a b c d q1 q2 q3
    unfold ltLeft
    split
    · rename_i h
      rcases h with h | h
      · exact .inr h
      · left; simp; omega
    · exact .inl rfl
  have e13 : (leftS 13 a b c d).p = decide (a < d) := by
    rcases lt a b c d b1 (by omega) b4 with e | e
    · exact e
    · show (ltLeft a b c d).p = _
      unfold ltLeft
      rw [if_pos (.inl e)]
      simp; omega
  have e15 : (leftS 15 a b c d).p = decide (c < b) := by
    rcases lt c d a b b3 (by omega) b2 with e | e
    · exact e
    · show (ltLeft c d a b).p = _
      unfold ltLeft
      rw [if_pos (.inl e)]
      simp; omega
  have e14 : (leftS 14 a b c d).p = decide (a ≤ d) := rfl
  have e16 : (leftS 16 a b c d).p = decide (c ≤ b) := rfl
  obtain rfl | rfl | rfl | rfl | rfl | rfl : op = 11 ∨ op = 12 ∨ op = 13 ∨ op = 14 ∨ op = 15 ∨ op = 16 := by omega
  · rw [show oppS 11 = 12 by rfl, e11, e12]
    simp only [compS, truthR, Int.reduceEq, if_true, if_false, Prod.mk.injEq, Bool.and_eq_true, Bool.or_eq_true, beq_iff_eq, decide_eq_true_eq, Bool.not_eq_true', Bool.eq_false_iff, ne_eq]
    refine ⟨⟨?_, ?_⟩, ?_⟩ <;> (repeat' split) <;> omega
  · rw [show oppS 12 = 11 by rfl, e11, e12]
    simp only [compS, truthR, Int.reduceEq, if_true, if_false, Prod.mk.injEq, Bool.and_eq_true, Bool.or_eq_true, beq_iff_eq, decide_eq_true_eq, Bool.not_eq_true', Bool.eq_false_iff, ne_eq]
    refine ⟨⟨?_, ?_⟩, ?_⟩ <;> (repeat' split) <;> omega
  · rw [show oppS 13 = 16 by rfl, e13, e16]
    simp only [compS, truthR, Int.reduceEq, if_true, if_false, Prod.mk.injEq, decide_eq_true_eq]
    refine ⟨⟨?_, ?_⟩, ?_⟩ <;> (repeat' split) <;> omega
  · rw [show oppS 14 = 15 by rfl, e14, e15]
    simp only [compS, truthR, Int.reduceEq, if_true, if_false, Prod.mk.injEq, decide_eq_true_eq]
    refine ⟨⟨?_, ?_⟩, ?_⟩ <;> (repeat' split) <;> omega
  · rw [show oppS 15 = 14 by rfl, e15, e14]
    simp only [compS, truthR, Int.reduceEq, if_true, if_false, Prod.mk.injEq, decide_eq_true_eq]
    refine ⟨⟨?_, ?_⟩, ?_⟩ <;> (repeat' split) <;> omega
  · rw [show oppS 16 = 13 by rfl, e16, e13]
    simp only [compS, truthR, Int.reduceEq, if_true, if_false, Prod.mk.injEq, decide_eq_true_eq]
    refine ⟨⟨?_, ?_⟩, ?_⟩ <;> (repeat' split) <;> omega

theorem ent_cmp : Enters 80 := fun _ _ => by kernel_rfl
theorem comp_pair {k op : Int} {f g : Nat} (ef : narV k op = fnV f) (eg : narV k (oppS op) = fnV g) (w : World) : Calls Try.prog 45 #[.int .i64 k] w (CompOut [(op, fnV f), (oppS op, fnV g)] w) := by
  have C := pcomp_any k [op, oppS op] w
  simp only [List.map_cons, List.map_nil, ef, eg] at C
  exact C
theorem cmp_ops {k op : Int} (h : cmpOK k op = true) : 11 ≤ op ∧ op ≤ 16 := by
  simp only [cmpOK, Bool.and_eq_true, decide_eq_true_eq] at h
  exact h.1

theorem bin_cmp (op k a b c d : Int) (h : cmpOK k op = true) (h1 : checkErr k a b = 0) (h2 : checkErr k c d = 0) : BinIs op k a b c d := by
  intro w
  have ho := cmp_ops h
  obtain ⟨f, ef, hent, hn⟩ := nar_ok h
  obtain ⟨g, eg, hent', hn'⟩ := nar_ok (cmpOK_opp h)
  have g1 := check_ok64 h1
  have g2 := check_ok64 h2
  have A := are2_any k a b c d
  rw [okB_of h1, okB_of h2] at A
  have E : binS op k a b c d = ⟨(compS op a b c d).1, (compS op a b c d).2, true, false, false⟩ := by
    unfold binS
    rw [if_neg (by omega), if_neg (by omega), if_neg (by omega), if_neg (by omega), if_neg (by omega), if_neg (by omega), if_neg (by omega), if_neg (by omega), if_pos ho.2]
  obtain ⟨es, en⟩ := comp_of op a b c d ho.1 ho.2 g1 g2
  rw [E, es]
  refine pbinary_ok op k a b c d _ _ true false false w (fun w => Lib.hid ?_) A
  refine (pbof_cmp op (oppS op) k f g w (fun w => Lib.hid (comp_pair ef eg w)) (fun w => Lib.hid (popposite_any op w ho.1 ho.2)) (fun w => Lib.hid (pcompared f g w))).mono ?_
  rintro e w' ⟨v, rfl, p, q, rfl, hp, hq, cp, cq, hB⟩
  refine ⟨80, _, rfl, hB, ent_cmp, ?_⟩
  intro w2 h3
  have lp := Nat.lt_of_lt_of_le hp h3.size
  have lq := Nat.lt_of_lt_of_le hq h3.size
  have cp' := (h3.cell (p := ⟨p, 0, none⟩) hp).trans cp
  have cq' := (h3.cell (p := ⟨q, 0, none⟩) hq).trans cq
  have F : ∀ r, (leftS op a b c d).p = r → Narrows f a b c d (narS op a b c d).x0 (narS op a b c d).x1 (narS op a b c d).y0 (narS op a b c d).y1 r := by
    rintro r rfl w
    have e := hn a b c d w g1 g2
    rw [← narS_p]
    exact Lib.hid e
  have G : ∀ r, (leftS (oppS op) a b c d).p = r → Narrows g a b c d (narS (oppS op) a b c d).x0 (narS (oppS op) a b c d).x1 (narS (oppS op) a b c d).y0 (narS (oppS op) a b c d).y1 r := by
    rintro r rfl w
    have e := hn' a b c d w g1 g2
    rw [← narS_p]
    exact Lib.hid e
  cases hP : (leftS op a b c d).p with
  | true =>
    cases hQ : (leftS (oppS op) a b c d).p with
    | true => exact pcmp_tt a b c d _ _ _ _ _ _ _ _ f g p q w2 lp lq cp' cq' hent hent' (F _ hP) (G _ hQ) (sure_of _ _)
    | false => exact pcmp_tf a b c d _ _ _ _ _ _ _ _ f g p q w2 lp lq cp' cq' hent hent' (F _ hP) (G _ hQ) (sure_of _ _)
  | false =>
    have hQ : (leftS (oppS op) a b c d).p = true := by
      rcases en with h | h
      · exact h
      · rw [hP] at h; exact absurd h (by decide)
    rw [hQ]
    exact pcmp_ft a b c d _ _ _ _ _ _ _ _ f g p q w2 lp lq cp' cq' hent hent' (F _ hP) (G _ hQ) (sure_of _ _)

end Go.Proofs.Ytgkhldbnljdeiaa
