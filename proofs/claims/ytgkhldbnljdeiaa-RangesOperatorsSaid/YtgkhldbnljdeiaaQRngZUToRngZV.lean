/- RngZU, RngZV. -/
import Derived.Test.YtgkhldbnljdeiaaQRngZTToRefZ
import Derived.Test.YtgkhldbnljdeiaaQRngZHToRngZM
set_option maxRecDepth 100000
set_option maxHeartbeats 4000000
set_option linter.unusedSimpArgs false
set_option linter.unusedVariables false
namespace Go.Proofs.Ytgkhldbnljdeiaa
open Go.RowKit RangesMath
attribute [local go_sem] World.setCell_self
/-- isSingle of a range. -/
def Sing (a b : Int) (t : Bool) : Prop := ∀ w, Hid (Calls Try.prog 83 #[.agg #[.int .i64 a, .int .i64 b]] w fun e w' => e = .returned (.bool t) ∧ Below w.heap.size w w')
/-- sure of a range. -/
def Sure (x y : Int) : Prop := ∀ w, Hid (Calls Try.prog 81 #[.agg #[.int .i64 x, .int .i64 y]] w fun e w' => e = .returned (.agg #[.int .i64 x, .int .i64 y, .bool true, .bool false, .bool false]) ∧ Below w.heap.size w w')
def Only (v : Int) : Prop := ∀ w, Hid (Calls Try.prog 84 #[.int .i64 v] w fun e w' => e = .returned (.agg #[.int .i64 v, .int .i64 v, .bool true, .bool false, .bool false]) ∧ Below w.heap.size w w')
def Gives (f : Nat) (args : Array Value) (x y : Int) : Prop := ∀ w, Hid (Calls Try.prog f args w (RangeIs x y w))
theorem pbitw_1s (a c k : Int) (kb : Nat) (w : World) (hkb : kb < w.heap.size) (hk : w.cell? ⟨kb, 0, none⟩ = some (.int .i64 k)) (S1 : Sing a a true) (S2 : Sing c c true) (ON : Only (bits .and .i64 a c)) :
   Calls Try.prog 82 #[.agg #[.int .i64 a, .int .i64 a], .agg #[.int .i64 c, .int .i64 c], .pointer (some ⟨kb, 0, none⟩)] w fun e w' => e = .returned (EffV (bits .and .i64 a c) (bits .and .i64 a c) true false false) ∧ Below w.heap.size w w' := by
 have hk3 : ∀ o1 o2 o3, (((w.alloc o1).alloc o2).alloc o3).cell? ⟨kb, 0, none⟩ = some (.int .i64 k) := by
   intro o1 o2 o3
   rw [((((Below.refl w.heap.size w).alloc (Nat.le_refl _) o1).alloc (by simp) o2).alloc (by simp; omega) o3).cell (p := ⟨kb, 0, none⟩) hkb]
   exact hk
 clear hk
 go_enter Try.func82, Try.ntmps82
 go_wp2_with fail
 refine (S1 _).out.mono ?_
 rintro e1 w1 ⟨rfl, hB1⟩
 have z2_1 : w.heap.size + 1 + 1 < w1.heap.size := by have := hB1.size; simp at this; omega
 have bl1 : Below w.heap.size w w1 := ((((Below.refl _ _).alloc (Nat.le_refl _) _).alloc (by simp) _).alloc (by simp; omega) _).trans (hB1.mono (by simp; omega))
 have z0_1 : w.heap.size < w1.heap.size := by omega
 have z1_1 : w.heap.size + 1 < w1.heap.size := by omega
 have zk_1 : kb < w1.heap.size := by omega
 have a0_1 : w1.cell? ⟨w.heap.size, 0, none⟩ = some (.int .i64 a) := cell_later hB1 (by go_simp)
 have a1_1 : w1.cell? ⟨w.heap.size, 1, none⟩ = some (.int .i64 a) := cell_later hB1 (by go_simp)
 have c0_1 : w1.cell? ⟨w.heap.size + 1, 0, none⟩ = some (.int .i64 c) := cell_later hB1 (by go_simp)
 have c1_1 : w1.cell? ⟨w.heap.size + 1, 1, none⟩ = some (.int .i64 c) := cell_later hB1 (by go_simp)
 have r0_1 : w1.cell? ⟨w.heap.size + 1 + 1, 0, none⟩ = some (.int .i64 0) := cell_later hB1 (by go_simp)
 have r1_1 : w1.cell? ⟨w.heap.size + 1 + 1, 1, none⟩ = some (.int .i64 0) := cell_later hB1 (by go_simp)
 have r2_1 : w1.cell? ⟨w.heap.size + 1 + 1, 2, none⟩ = some (.bool false) := cell_later hB1 (by go_simp)
 have r3_1 : w1.cell? ⟨w.heap.size + 1 + 1, 3, none⟩ = some (.bool false) := cell_later hB1 (by go_simp)
 have r4_1 : w1.cell? ⟨w.heap.size + 1 + 1, 4, none⟩ = some (.bool false) := cell_later hB1 (by go_simp)
 have k0_1 : w1.cell? ⟨kb, 0, none⟩ = some (.int .i64 k) := cell_later hB1 (by go_simp)
 have f0_1 : w1.frozen? ⟨w.heap.size + 1 + 1, 0, none⟩ = false := keepFr hB1 (by simp; try omega) (by go_simp)
 have f1_1 : w1.frozen? ⟨w.heap.size + 1 + 1, 1, none⟩ = false := keepFr hB1 (by simp; try omega) (by go_simp)
 have f2_1 : w1.frozen? ⟨w.heap.size + 1 + 1, 2, none⟩ = false := keepFr hB1 (by simp; try omega) (by go_simp)
 have f3_1 : w1.frozen? ⟨w.heap.size + 1 + 1, 3, none⟩ = false := keepFr hB1 (by simp; try omega) (by go_simp)
 have f4_1 : w1.frozen? ⟨w.heap.size + 1 + 1, 4, none⟩ = false := keepFr hB1 (by simp; try omega) (by go_simp)
 clear hB1
 go_wp2_with fail
 refine (S2 _).out.mono ?_
 rintro e2 w2 ⟨rfl, hB2⟩
 have z2_2 : w.heap.size + 1 + 1 < w2.heap.size := by have := hB2.size; omega
 have bl2 : Below w.heap.size w w2 := bl1.trans (hB2.mono (by omega))
 have z0_2 : w.heap.size < w2.heap.size := by omega
 have z1_2 : w.heap.size + 1 < w2.heap.size := by omega
 have zk_2 : kb < w2.heap.size := by omega
 have a0_2 : w2.cell? ⟨w.heap.size, 0, none⟩ = some (.int .i64 a) := cell_later hB2 (by go_simp)
 have a1_2 : w2.cell? ⟨w.heap.size, 1, none⟩ = some (.int .i64 a) := cell_later hB2 (by go_simp)
 have c0_2 : w2.cell? ⟨w.heap.size + 1, 0, none⟩ = some (.int .i64 c) := cell_later hB2 (by go_simp)
 have c1_2 : w2.cell? ⟨w.heap.size + 1, 1, none⟩ = some (.int .i64 c) := cell_later hB2 (by go_simp)
 have r0_2 : w2.cell? ⟨w.heap.size + 1 + 1, 0, none⟩ = some (.int .i64 0) := cell_later hB2 (by go_simp)
 have r1_2 : w2.cell? ⟨w.heap.size + 1 + 1, 1, none⟩ = some (.int .i64 0) := cell_later hB2 (by go_simp)
 have r2_2 : w2.cell? ⟨w.heap.size + 1 + 1, 2, none⟩ = some (.bool false) := cell_later hB2 (by go_simp)
 have r3_2 : w2.cell? ⟨w.heap.size + 1 + 1, 3, none⟩ = some (.bool false) := cell_later hB2 (by go_simp)
 have r4_2 : w2.cell? ⟨w.heap.size + 1 + 1, 4, none⟩ = some (.bool false) := cell_later hB2 (by go_simp)
 have k0_2 : w2.cell? ⟨kb, 0, none⟩ = some (.int .i64 k) := cell_later hB2 (by go_simp)
 have f0_2 : w2.frozen? ⟨w.heap.size + 1 + 1, 0, none⟩ = false := keepFr hB2 (by omega) (by go_simp)
 have f1_2 : w2.frozen? ⟨w.heap.size + 1 + 1, 1, none⟩ = false := keepFr hB2 (by omega) (by go_simp)
 have f2_2 : w2.frozen? ⟨w.heap.size + 1 + 1, 2, none⟩ = false := keepFr hB2 (by omega) (by go_simp)
 have f3_2 : w2.frozen? ⟨w.heap.size + 1 + 1, 3, none⟩ = false := keepFr hB2 (by omega) (by go_simp)
 have f4_2 : w2.frozen? ⟨w.heap.size + 1 + 1, 4, none⟩ = false := keepFr hB2 (by omega) (by go_simp)
 clear hB2 bl1 z0_1 z1_1 z2_1 zk_1 a0_1 a1_1 c0_1 c1_1 k0_1 r0_1 r1_1 r2_1 r3_1 r4_1 f0_1 f1_1 f2_1 f3_1 f4_1
 go_wp2_with fail
 refine (ON _).out.mono ?_
 rintro e3 w3 ⟨rfl, hB3⟩
 have z2_3 : w.heap.size + 1 + 1 < w3.heap.size := by have := hB3.size; omega
 have bl3 : Below w.heap.size w w3 := bl2.trans (hB3.mono (by omega))
 have z0_3 : w.heap.size < w3.heap.size := by omega
 have z1_3 : w.heap.size + 1 < w3.heap.size := by omega
 have zk_3 : kb < w3.heap.size := by omega
 have a0_3 : w3.cell? ⟨w.heap.size, 0, none⟩ = some (.int .i64 a) := cell_later hB3 (by go_simp)
 have a1_3 : w3.cell? ⟨w.heap.size, 1, none⟩ = some (.int .i64 a) := cell_later hB3 (by go_simp)
 have c0_3 : w3.cell? ⟨w.heap.size + 1, 0, none⟩ = some (.int .i64 c) := cell_later hB3 (by go_simp)
 have c1_3 : w3.cell? ⟨w.heap.size + 1, 1, none⟩ = some (.int .i64 c) := cell_later hB3 (by go_simp)
 have r0_3 : w3.cell? ⟨w.heap.size + 1 + 1, 0, none⟩ = some (.int .i64 0) := cell_later hB3 (by go_simp)
 have r1_3 : w3.cell? ⟨w.heap.size + 1 + 1, 1, none⟩ = some (.int .i64 0) := cell_later hB3 (by go_simp)
 have r2_3 : w3.cell? ⟨w.heap.size + 1 + 1, 2, none⟩ = some (.bool false) := cell_later hB3 (by go_simp)
 have r3_3 : w3.cell? ⟨w.heap.size + 1 + 1, 3, none⟩ = some (.bool false) := cell_later hB3 (by go_simp)
 have r4_3 : w3.cell? ⟨w.heap.size + 1 + 1, 4, none⟩ = some (.bool false) := cell_later hB3 (by go_simp)
 have k0_3 : w3.cell? ⟨kb, 0, none⟩ = some (.int .i64 k) := cell_later hB3 (by go_simp)
 have f0_3 : w3.frozen? ⟨w.heap.size + 1 + 1, 0, none⟩ = false := keepFr hB3 (by omega) (by go_simp)
 have f1_3 : w3.frozen? ⟨w.heap.size + 1 + 1, 1, none⟩ = false := keepFr hB3 (by omega) (by go_simp)
 have f2_3 : w3.frozen? ⟨w.heap.size + 1 + 1, 2, none⟩ = false := keepFr hB3 (by omega) (by go_simp)
 have f3_3 : w3.frozen? ⟨w.heap.size + 1 + 1, 3, none⟩ = false := keepFr hB3 (by omega) (by go_simp)
 have f4_3 : w3.frozen? ⟨w.heap.size + 1 + 1, 4, none⟩ = false := keepFr hB3 (by omega) (by go_simp)
 clear hB3 bl2 z0_2 z1_2 z2_2 zk_2 a0_2 a1_2 c0_2 c1_2 k0_2 r0_2 r1_2 r2_2 r3_2 r4_2 f0_2 f1_2 f2_2 f3_2 f4_2
 go_wp2
 refine bodyPost_ret (v := EffV (bits .and .i64 a c) (bits .and .i64 a c) true false false) (by simp [results, Try.results82, go_sem, r0_3, r1_3, r2_3, r3_3, r4_3, EffV]) rfl ⟨rfl, ?_⟩
 exact (((bl3.setCell (by simp; try omega) _).setCell (by simp; try omega) _).setCell (by simp; try omega) _)
theorem pbitw_1n (a b c d k x y : Int) (kb : Nat) (w : World) (hkb : kb < w.heap.size) (hk : w.cell? ⟨kb, 0, none⟩ = some (.int .i64 k)) (S1 : Sing a b false) (G : Gives 85 #[.int .i64 k, .agg #[.int .i64 a, .int .i64 b], .agg #[.int .i64 c, .int .i64 d]] x y) (SR : Sure x y) :
   Calls Try.prog 82 #[.agg #[.int .i64 a, .int .i64 b], .agg #[.int .i64 c, .int .i64 d], .pointer (some ⟨kb, 0, none⟩)] w fun e w' => e = .returned (EffV (x) (y) true false false) ∧ Below w.heap.size w w' := by
 have hk3 : ∀ o1 o2 o3, (((w.alloc o1).alloc o2).alloc o3).cell? ⟨kb, 0, none⟩ = some (.int .i64 k) := by
   intro o1 o2 o3
   rw [((((Below.refl w.heap.size w).alloc (Nat.le_refl _) o1).alloc (by simp) o2).alloc (by simp; omega) o3).cell (p := ⟨kb, 0, none⟩) hkb]
   exact hk
 clear hk
 go_enter Try.func82, Try.ntmps82
 go_wp2_with fail
 refine (S1 _).out.mono ?_
 rintro e1 w1 ⟨rfl, hB1⟩
 have z2_1 : w.heap.size + 1 + 1 < w1.heap.size := by have := hB1.size; simp at this; omega
 have bl1 : Below w.heap.size w w1 := ((((Below.refl _ _).alloc (Nat.le_refl _) _).alloc (by simp) _).alloc (by simp; omega) _).trans (hB1.mono (by simp; omega))
 have z0_1 : w.heap.size < w1.heap.size := by omega
 have z1_1 : w.heap.size + 1 < w1.heap.size := by omega
 have zk_1 : kb < w1.heap.size := by omega
 have a0_1 : w1.cell? ⟨w.heap.size, 0, none⟩ = some (.int .i64 a) := cell_later hB1 (by go_simp)
 have a1_1 : w1.cell? ⟨w.heap.size, 1, none⟩ = some (.int .i64 b) := cell_later hB1 (by go_simp)
 have c0_1 : w1.cell? ⟨w.heap.size + 1, 0, none⟩ = some (.int .i64 c) := cell_later hB1 (by go_simp)
 have c1_1 : w1.cell? ⟨w.heap.size + 1, 1, none⟩ = some (.int .i64 d) := cell_later hB1 (by go_simp)
 have r0_1 : w1.cell? ⟨w.heap.size + 1 + 1, 0, none⟩ = some (.int .i64 0) := cell_later hB1 (by go_simp)
 have r1_1 : w1.cell? ⟨w.heap.size + 1 + 1, 1, none⟩ = some (.int .i64 0) := cell_later hB1 (by go_simp)
 have r2_1 : w1.cell? ⟨w.heap.size + 1 + 1, 2, none⟩ = some (.bool false) := cell_later hB1 (by go_simp)
 have r3_1 : w1.cell? ⟨w.heap.size + 1 + 1, 3, none⟩ = some (.bool false) := cell_later hB1 (by go_simp)
 have r4_1 : w1.cell? ⟨w.heap.size + 1 + 1, 4, none⟩ = some (.bool false) := cell_later hB1 (by go_simp)
 have k0_1 : w1.cell? ⟨kb, 0, none⟩ = some (.int .i64 k) := cell_later hB1 (by go_simp)
 have f0_1 : w1.frozen? ⟨w.heap.size + 1 + 1, 0, none⟩ = false := keepFr hB1 (by simp; try omega) (by go_simp)
 have f1_1 : w1.frozen? ⟨w.heap.size + 1 + 1, 1, none⟩ = false := keepFr hB1 (by simp; try omega) (by go_simp)
 have f2_1 : w1.frozen? ⟨w.heap.size + 1 + 1, 2, none⟩ = false := keepFr hB1 (by simp; try omega) (by go_simp)
 have f3_1 : w1.frozen? ⟨w.heap.size + 1 + 1, 3, none⟩ = false := keepFr hB1 (by simp; try omega) (by go_simp)
 have f4_1 : w1.frozen? ⟨w.heap.size + 1 + 1, 4, none⟩ = false := keepFr hB1 (by simp; try omega) (by go_simp)
 clear hB1
 go_wp2_with fail
 refine (G _).out.mono ?_
 rintro e2 w2 ⟨rfl, hB2⟩
 have z2_2 : w.heap.size + 1 + 1 < w2.heap.size := by have := hB2.size; omega
 have bl2 : Below w.heap.size w w2 := bl1.trans (hB2.mono (by omega))
 have z0_2 : w.heap.size < w2.heap.size := by omega
 have z1_2 : w.heap.size + 1 < w2.heap.size := by omega
 have zk_2 : kb < w2.heap.size := by omega
 have a0_2 : w2.cell? ⟨w.heap.size, 0, none⟩ = some (.int .i64 a) := cell_later hB2 (by go_simp)
 have a1_2 : w2.cell? ⟨w.heap.size, 1, none⟩ = some (.int .i64 b) := cell_later hB2 (by go_simp)
 have c0_2 : w2.cell? ⟨w.heap.size + 1, 0, none⟩ = some (.int .i64 c) := cell_later hB2 (by go_simp)
 have c1_2 : w2.cell? ⟨w.heap.size + 1, 1, none⟩ = some (.int .i64 d) := cell_later hB2 (by go_simp)
 have r0_2 : w2.cell? ⟨w.heap.size + 1 + 1, 0, none⟩ = some (.int .i64 0) := cell_later hB2 (by go_simp)
 have r1_2 : w2.cell? ⟨w.heap.size + 1 + 1, 1, none⟩ = some (.int .i64 0) := cell_later hB2 (by go_simp)
 have r2_2 : w2.cell? ⟨w.heap.size + 1 + 1, 2, none⟩ = some (.bool false) := cell_later hB2 (by go_simp)
 have r3_2 : w2.cell? ⟨w.heap.size + 1 + 1, 3, none⟩ = some (.bool false) := cell_later hB2 (by go_simp)
 have r4_2 : w2.cell? ⟨w.heap.size + 1 + 1, 4, none⟩ = some (.bool false) := cell_later hB2 (by go_simp)
 have k0_2 : w2.cell? ⟨kb, 0, none⟩ = some (.int .i64 k) := cell_later hB2 (by go_simp)
 have f0_2 : w2.frozen? ⟨w.heap.size + 1 + 1, 0, none⟩ = false := keepFr hB2 (by omega) (by go_simp)
 have f1_2 : w2.frozen? ⟨w.heap.size + 1 + 1, 1, none⟩ = false := keepFr hB2 (by omega) (by go_simp)
 have f2_2 : w2.frozen? ⟨w.heap.size + 1 + 1, 2, none⟩ = false := keepFr hB2 (by omega) (by go_simp)
 have f3_2 : w2.frozen? ⟨w.heap.size + 1 + 1, 3, none⟩ = false := keepFr hB2 (by omega) (by go_simp)
 have f4_2 : w2.frozen? ⟨w.heap.size + 1 + 1, 4, none⟩ = false := keepFr hB2 (by omega) (by go_simp)
 clear hB2 bl1 z0_1 z1_1 z2_1 zk_1 a0_1 a1_1 c0_1 c1_1 k0_1 r0_1 r1_1 r2_1 r3_1 r4_1 f0_1 f1_1 f2_1 f3_1 f4_1
 go_wp2_with fail
 refine (SR _).out.mono ?_
 rintro e3 w3 ⟨rfl, hB3⟩
 have z2_3 : w.heap.size + 1 + 1 < w3.heap.size := by have := hB3.size; omega
 have bl3 : Below w.heap.size w w3 := bl2.trans (hB3.mono (by omega))
 have z0_3 : w.heap.size < w3.heap.size := by omega
 have z1_3 : w.heap.size + 1 < w3.heap.size := by omega
 have zk_3 : kb < w3.heap.size := by omega
 have a0_3 : w3.cell? ⟨w.heap.size, 0, none⟩ = some (.int .i64 a) := cell_later hB3 (by go_simp)
 have a1_3 : w3.cell? ⟨w.heap.size, 1, none⟩ = some (.int .i64 b) := cell_later hB3 (by go_simp)
 have c0_3 : w3.cell? ⟨w.heap.size + 1, 0, none⟩ = some (.int .i64 c) := cell_later hB3 (by go_simp)
 have c1_3 : w3.cell? ⟨w.heap.size + 1, 1, none⟩ = some (.int .i64 d) := cell_later hB3 (by go_simp)
 have r0_3 : w3.cell? ⟨w.heap.size + 1 + 1, 0, none⟩ = some (.int .i64 0) := cell_later hB3 (by go_simp)
 have r1_3 : w3.cell? ⟨w.heap.size + 1 + 1, 1, none⟩ = some (.int .i64 0) := cell_later hB3 (by go_simp)
 have r2_3 : w3.cell? ⟨w.heap.size + 1 + 1, 2, none⟩ = some (.bool false) := cell_later hB3 (by go_simp)
 have r3_3 : w3.cell? ⟨w.heap.size + 1 + 1, 3, none⟩ = some (.bool false) := cell_later hB3 (by go_simp)
 have r4_3 : w3.cell? ⟨w.heap.size + 1 + 1, 4, none⟩ = some (.bool false) := cell_later hB3 (by go_simp)
 have k0_3 : w3.cell? ⟨kb, 0, none⟩ = some (.int .i64 k) := cell_later hB3 (by go_simp)
 have f0_3 : w3.frozen? ⟨w.heap.size + 1 + 1, 0, none⟩ = false := keepFr hB3 (by omega) (by go_simp)
 have f1_3 : w3.frozen? ⟨w.heap.size + 1 + 1, 1, none⟩ = false := keepFr hB3 (by omega) (by go_simp)
 have f2_3 : w3.frozen? ⟨w.heap.size + 1 + 1, 2, none⟩ = false := keepFr hB3 (by omega) (by go_simp)
 have f3_3 : w3.frozen? ⟨w.heap.size + 1 + 1, 3, none⟩ = false := keepFr hB3 (by omega) (by go_simp)
 have f4_3 : w3.frozen? ⟨w.heap.size + 1 + 1, 4, none⟩ = false := keepFr hB3 (by omega) (by go_simp)
 clear hB3 bl2 z0_2 z1_2 z2_2 zk_2 a0_2 a1_2 c0_2 c1_2 k0_2 r0_2 r1_2 r2_2 r3_2 r4_2 f0_2 f1_2 f2_2 f3_2 f4_2
 go_wp2
 refine bodyPost_ret (v := EffV (x) (y) true false false) (by simp [results, Try.results82, go_sem, r0_3, r1_3, r2_3, r3_3, r4_3, EffV]) rfl ⟨rfl, ?_⟩
 exact (((bl3.setCell (by simp; try omega) _).setCell (by simp; try omega) _).setCell (by simp; try omega) _)
theorem pbitw_1m (a c d k x y : Int) (kb : Nat) (w : World) (hkb : kb < w.heap.size) (hk : w.cell? ⟨kb, 0, none⟩ = some (.int .i64 k)) (S1 : Sing a a true) (S2 : Sing c d false) (G : Gives 85 #[.int .i64 k, .agg #[.int .i64 a, .int .i64 a], .agg #[.int .i64 c, .int .i64 d]] x y) (SR : Sure x y) :
   Calls Try.prog 82 #[.agg #[.int .i64 a, .int .i64 a], .agg #[.int .i64 c, .int .i64 d], .pointer (some ⟨kb, 0, none⟩)] w fun e w' => e = .returned (EffV (x) (y) true false false) ∧ Below w.heap.size w w' := by
 have hk3 : ∀ o1 o2 o3, (((w.alloc o1).alloc o2).alloc o3).cell? ⟨kb, 0, none⟩ = some (.int .i64 k) := by
   intro o1 o2 o3
   rw [((((Below.refl w.heap.size w).alloc (Nat.le_refl _) o1).alloc (by simp) o2).alloc (by simp; omega) o3).cell (p := ⟨kb, 0, none⟩) hkb]
   exact hk
 clear hk
 go_enter Try.func82, Try.ntmps82
 go_wp2_with fail
 refine (S1 _).out.mono ?_
 rintro e1 w1 ⟨rfl, hB1⟩
 have z2_1 : w.heap.size + 1 + 1 < w1.heap.size := by have := hB1.size; simp at this; omega
 have bl1 : Below w.heap.size w w1 := ((((Below.refl _ _).alloc (Nat.le_refl _) _).alloc (by simp) _).alloc (by simp; omega) _).trans (hB1.mono (by simp; omega))
 have z0_1 : w.heap.size < w1.heap.size := by omega
 have z1_1 : w.heap.size + 1 < w1.heap.size := by omega
 have zk_1 : kb < w1.heap.size := by omega
 have a0_1 : w1.cell? ⟨w.heap.size, 0, none⟩ = some (.int .i64 a) := cell_later hB1 (by go_simp)
 have a1_1 : w1.cell? ⟨w.heap.size, 1, none⟩ = some (.int .i64 a) := cell_later hB1 (by go_simp)
 have c0_1 : w1.cell? ⟨w.heap.size + 1, 0, none⟩ = some (.int .i64 c) := cell_later hB1 (by go_simp)
 have c1_1 : w1.cell? ⟨w.heap.size + 1, 1, none⟩ = some (.int .i64 d) := cell_later hB1 (by go_simp)
 have r0_1 : w1.cell? ⟨w.heap.size + 1 + 1, 0, none⟩ = some (.int .i64 0) := cell_later hB1 (by go_simp)
 have r1_1 : w1.cell? ⟨w.heap.size + 1 + 1, 1, none⟩ = some (.int .i64 0) := cell_later hB1 (by go_simp)
 have r2_1 : w1.cell? ⟨w.heap.size + 1 + 1, 2, none⟩ = some (.bool false) := cell_later hB1 (by go_simp)
 have r3_1 : w1.cell? ⟨w.heap.size + 1 + 1, 3, none⟩ = some (.bool false) := cell_later hB1 (by go_simp)
 have r4_1 : w1.cell? ⟨w.heap.size + 1 + 1, 4, none⟩ = some (.bool false) := cell_later hB1 (by go_simp)
 have k0_1 : w1.cell? ⟨kb, 0, none⟩ = some (.int .i64 k) := cell_later hB1 (by go_simp)
 have f0_1 : w1.frozen? ⟨w.heap.size + 1 + 1, 0, none⟩ = false := keepFr hB1 (by simp; try omega) (by go_simp)
 have f1_1 : w1.frozen? ⟨w.heap.size + 1 + 1, 1, none⟩ = false := keepFr hB1 (by simp; try omega) (by go_simp)
 have f2_1 : w1.frozen? ⟨w.heap.size + 1 + 1, 2, none⟩ = false := keepFr hB1 (by simp; try omega) (by go_simp)
 have f3_1 : w1.frozen? ⟨w.heap.size + 1 + 1, 3, none⟩ = false := keepFr hB1 (by simp; try omega) (by go_simp)
 have f4_1 : w1.frozen? ⟨w.heap.size + 1 + 1, 4, none⟩ = false := keepFr hB1 (by simp; try omega) (by go_simp)
 clear hB1
 go_wp2_with fail
 refine (S2 _).out.mono ?_
 rintro e2 w2 ⟨rfl, hB2⟩
 have z2_2 : w.heap.size + 1 + 1 < w2.heap.size := by have := hB2.size; omega
 have bl2 : Below w.heap.size w w2 := bl1.trans (hB2.mono (by omega))
 have z0_2 : w.heap.size < w2.heap.size := by omega
 have z1_2 : w.heap.size + 1 < w2.heap.size := by omega
 have zk_2 : kb < w2.heap.size := by omega
 have a0_2 : w2.cell? ⟨w.heap.size, 0, none⟩ = some (.int .i64 a) := cell_later hB2 (by go_simp)
 have a1_2 : w2.cell? ⟨w.heap.size, 1, none⟩ = some (.int .i64 a) := cell_later hB2 (by go_simp)
 have c0_2 : w2.cell? ⟨w.heap.size + 1, 0, none⟩ = some (.int .i64 c) := cell_later hB2 (by go_simp)
 have c1_2 : w2.cell? ⟨w.heap.size + 1, 1, none⟩ = some (.int .i64 d) := cell_later hB2 (by go_simp)
 have r0_2 : w2.cell? ⟨w.heap.size + 1 + 1, 0, none⟩ = some (.int .i64 0) := cell_later hB2 (by go_simp)
 have r1_2 : w2.cell? ⟨w.heap.size + 1 + 1, 1, none⟩ = some (.int .i64 0) := cell_later hB2 (by go_simp)
 have r2_2 : w2.cell? ⟨w.heap.size + 1 + 1, 2, none⟩ = some (.bool false) := cell_later hB2 (by go_simp)
 have r3_2 : w2.cell? ⟨w.heap.size + 1 + 1, 3, none⟩ = some (.bool false) := cell_later hB2 (by go_simp)
 have r4_2 : w2.cell? ⟨w.heap.size + 1 + 1, 4, none⟩ = some (.bool false) := cell_later hB2 (by go_simp)
 have k0_2 : w2.cell? ⟨kb, 0, none⟩ = some (.int .i64 k) := cell_later hB2 (by go_simp)
 have f0_2 : w2.frozen? ⟨w.heap.size + 1 + 1, 0, none⟩ = false := keepFr hB2 (by omega) (by go_simp)
 have f1_2 : w2.frozen? ⟨w.heap.size + 1 + 1, 1, none⟩ = false := keepFr hB2 (by omega) (by go_simp)
 have f2_2 : w2.frozen? ⟨w.heap.size + 1 + 1, 2, none⟩ = false := keepFr hB2 (by omega) (by go_simp)
 have f3_2 : w2.frozen? ⟨w.heap.size + 1 + 1, 3, none⟩ = false := keepFr hB2 (by omega) (by go_simp)
 have f4_2 : w2.frozen? ⟨w.heap.size + 1 + 1, 4, none⟩ = false := keepFr hB2 (by omega) (by go_simp)
 clear hB2 bl1 z0_1 z1_1 z2_1 zk_1 a0_1 a1_1 c0_1 c1_1 k0_1 r0_1 r1_1 r2_1 r3_1 r4_1 f0_1 f1_1 f2_1 f3_1 f4_1
 go_wp2_with fail
 refine (G _).out.mono ?_
 rintro e3 w3 ⟨rfl, hB3⟩
 have z2_3 : w.heap.size + 1 + 1 < w3.heap.size := by have := hB3.size; omega
 have bl3 : Below w.heap.size w w3 := bl2.trans (hB3.mono (by omega))
 have z0_3 : w.heap.size < w3.heap.size := by omega
 have z1_3 : w.heap.size + 1 < w3.heap.size := by omega
 have zk_3 : kb < w3.heap.size := by omega
 have a0_3 : w3.cell? ⟨w.heap.size, 0, none⟩ = some (.int .i64 a) := cell_later hB3 (by go_simp)
 have a1_3 : w3.cell? ⟨w.heap.size, 1, none⟩ = some (.int .i64 a) := cell_later hB3 (by go_simp)
 have c0_3 : w3.cell? ⟨w.heap.size + 1, 0, none⟩ = some (.int .i64 c) := cell_later hB3 (by go_simp)
 have c1_3 : w3.cell? ⟨w.heap.size + 1, 1, none⟩ = some (.int .i64 d) := cell_later hB3 (by go_simp)
 have r0_3 : w3.cell? ⟨w.heap.size + 1 + 1, 0, none⟩ = some (.int .i64 0) := cell_later hB3 (by go_simp)
 have r1_3 : w3.cell? ⟨w.heap.size + 1 + 1, 1, none⟩ = some (.int .i64 0) := cell_later hB3 (by go_simp)
 have r2_3 : w3.cell? ⟨w.heap.size + 1 + 1, 2, none⟩ = some (.bool false) := cell_later hB3 (by go_simp)
 have r3_3 : w3.cell? ⟨w.heap.size + 1 + 1, 3, none⟩ = some (.bool false) := cell_later hB3 (by go_simp)
 have r4_3 : w3.cell? ⟨w.heap.size + 1 + 1, 4, none⟩ = some (.bool false) := cell_later hB3 (by go_simp)
 have k0_3 : w3.cell? ⟨kb, 0, none⟩ = some (.int .i64 k) := cell_later hB3 (by go_simp)
 have f0_3 : w3.frozen? ⟨w.heap.size + 1 + 1, 0, none⟩ = false := keepFr hB3 (by omega) (by go_simp)
 have f1_3 : w3.frozen? ⟨w.heap.size + 1 + 1, 1, none⟩ = false := keepFr hB3 (by omega) (by go_simp)
 have f2_3 : w3.frozen? ⟨w.heap.size + 1 + 1, 2, none⟩ = false := keepFr hB3 (by omega) (by go_simp)
 have f3_3 : w3.frozen? ⟨w.heap.size + 1 + 1, 3, none⟩ = false := keepFr hB3 (by omega) (by go_simp)
 have f4_3 : w3.frozen? ⟨w.heap.size + 1 + 1, 4, none⟩ = false := keepFr hB3 (by omega) (by go_simp)
 clear hB3 bl2 z0_2 z1_2 z2_2 zk_2 a0_2 a1_2 c0_2 c1_2 k0_2 r0_2 r1_2 r2_2 r3_2 r4_2 f0_2 f1_2 f2_2 f3_2 f4_2
 go_wp2_with fail
 refine (SR _).out.mono ?_
 rintro e4 w4 ⟨rfl, hB4⟩
 have z2_4 : w.heap.size + 1 + 1 < w4.heap.size := by have := hB4.size; omega
 have bl4 : Below w.heap.size w w4 := bl3.trans (hB4.mono (by omega))
 have z0_4 : w.heap.size < w4.heap.size := by omega
 have z1_4 : w.heap.size + 1 < w4.heap.size := by omega
 have zk_4 : kb < w4.heap.size := by omega
 have a0_4 : w4.cell? ⟨w.heap.size, 0, none⟩ = some (.int .i64 a) := cell_later hB4 (by go_simp)
 have a1_4 : w4.cell? ⟨w.heap.size, 1, none⟩ = some (.int .i64 a) := cell_later hB4 (by go_simp)
 have c0_4 : w4.cell? ⟨w.heap.size + 1, 0, none⟩ = some (.int .i64 c) := cell_later hB4 (by go_simp)
 have c1_4 : w4.cell? ⟨w.heap.size + 1, 1, none⟩ = some (.int .i64 d) := cell_later hB4 (by go_simp)
 have r0_4 : w4.cell? ⟨w.heap.size + 1 + 1, 0, none⟩ = some (.int .i64 0) := cell_later hB4 (by go_simp)
 have r1_4 : w4.cell? ⟨w.heap.size + 1 + 1, 1, none⟩ = some (.int .i64 0) := cell_later hB4 (by go_simp)
 have r2_4 : w4.cell? ⟨w.heap.size + 1 + 1, 2, none⟩ = some (.bool false) := cell_later hB4 (by go_simp)
 have r3_4 : w4.cell? ⟨w.heap.size + 1 + 1, 3, none⟩ = some (.bool false) := cell_later hB4 (by go_simp)
 have r4_4 : w4.cell? ⟨w.heap.size + 1 + 1, 4, none⟩ = some (.bool false) := cell_later hB4 (by go_simp)
 have k0_4 : w4.cell? ⟨kb, 0, none⟩ = some (.int .i64 k) := cell_later hB4 (by go_simp)
 have f0_4 : w4.frozen? ⟨w.heap.size + 1 + 1, 0, none⟩ = false := keepFr hB4 (by omega) (by go_simp)
 have f1_4 : w4.frozen? ⟨w.heap.size + 1 + 1, 1, none⟩ = false := keepFr hB4 (by omega) (by go_simp)
 have f2_4 : w4.frozen? ⟨w.heap.size + 1 + 1, 2, none⟩ = false := keepFr hB4 (by omega) (by go_simp)
 have f3_4 : w4.frozen? ⟨w.heap.size + 1 + 1, 3, none⟩ = false := keepFr hB4 (by omega) (by go_simp)
 have f4_4 : w4.frozen? ⟨w.heap.size + 1 + 1, 4, none⟩ = false := keepFr hB4 (by omega) (by go_simp)
 clear hB4 bl3 z0_3 z1_3 z2_3 zk_3 a0_3 a1_3 c0_3 c1_3 k0_3 r0_3 r1_3 r2_3 r3_3 r4_3 f0_3 f1_3 f2_3 f3_3 f4_3
 go_wp2
 refine bodyPost_ret (v := EffV (x) (y) true false false) (by simp [results, Try.results82, go_sem, r0_4, r1_4, r2_4, r3_4, r4_4, EffV]) rfl ⟨rfl, ?_⟩
 exact (((bl4.setCell (by simp; try omega) _).setCell (by simp; try omega) _).setCell (by simp; try omega) _)
theorem pbitw_2s (a c k : Int) (kb : Nat) (w : World) (hkb : kb < w.heap.size) (hk : w.cell? ⟨kb, 0, none⟩ = some (.int .i64 k)) (S1 : Sing a a true) (S2 : Sing c c true) (ON : Only (bits .xor .i64 a c)) :
   Calls Try.prog 86 #[.agg #[.int .i64 a, .int .i64 a], .agg #[.int .i64 c, .int .i64 c], .pointer (some ⟨kb, 0, none⟩)] w fun e w' => e = .returned (EffV (bits .xor .i64 a c) (bits .xor .i64 a c) true false false) ∧ Below w.heap.size w w' := by
 have hk3 : ∀ o1 o2 o3, (((w.alloc o1).alloc o2).alloc o3).cell? ⟨kb, 0, none⟩ = some (.int .i64 k) := by
   intro o1 o2 o3
   rw [((((Below.refl w.heap.size w).alloc (Nat.le_refl _) o1).alloc (by simp) o2).alloc (by simp; omega) o3).cell (p := ⟨kb, 0, none⟩) hkb]
   exact hk
 clear hk
 go_enter Try.func86, Try.ntmps86
 go_wp2_with fail
 refine (S1 _).out.mono ?_
 rintro e1 w1 ⟨rfl, hB1⟩
 have z2_1 : w.heap.size + 1 + 1 < w1.heap.size := by have := hB1.size; simp at this; omega
 have bl1 : Below w.heap.size w w1 := ((((Below.refl _ _).alloc (Nat.le_refl _) _).alloc (by simp) _).alloc (by simp; omega) _).trans (hB1.mono (by simp; omega))
 have z0_1 : w.heap.size < w1.heap.size := by omega
 have z1_1 : w.heap.size + 1 < w1.heap.size := by omega
 have zk_1 : kb < w1.heap.size := by omega
 have a0_1 : w1.cell? ⟨w.heap.size, 0, none⟩ = some (.int .i64 a) := cell_later hB1 (by go_simp)
 have a1_1 : w1.cell? ⟨w.heap.size, 1, none⟩ = some (.int .i64 a) := cell_later hB1 (by go_simp)
 have c0_1 : w1.cell? ⟨w.heap.size + 1, 0, none⟩ = some (.int .i64 c) := cell_later hB1 (by go_simp)
 have c1_1 : w1.cell? ⟨w.heap.size + 1, 1, none⟩ = some (.int .i64 c) := cell_later hB1 (by go_simp)
 have r0_1 : w1.cell? ⟨w.heap.size + 1 + 1, 0, none⟩ = some (.int .i64 0) := cell_later hB1 (by go_simp)
 have r1_1 : w1.cell? ⟨w.heap.size + 1 + 1, 1, none⟩ = some (.int .i64 0) := cell_later hB1 (by go_simp)
 have r2_1 : w1.cell? ⟨w.heap.size + 1 + 1, 2, none⟩ = some (.bool false) := cell_later hB1 (by go_simp)
 have r3_1 : w1.cell? ⟨w.heap.size + 1 + 1, 3, none⟩ = some (.bool false) := cell_later hB1 (by go_simp)
 have r4_1 : w1.cell? ⟨w.heap.size + 1 + 1, 4, none⟩ = some (.bool false) := cell_later hB1 (by go_simp)
 have k0_1 : w1.cell? ⟨kb, 0, none⟩ = some (.int .i64 k) := cell_later hB1 (by go_simp)
 have f0_1 : w1.frozen? ⟨w.heap.size + 1 + 1, 0, none⟩ = false := keepFr hB1 (by simp; try omega) (by go_simp)
 have f1_1 : w1.frozen? ⟨w.heap.size + 1 + 1, 1, none⟩ = false := keepFr hB1 (by simp; try omega) (by go_simp)
 have f2_1 : w1.frozen? ⟨w.heap.size + 1 + 1, 2, none⟩ = false := keepFr hB1 (by simp; try omega) (by go_simp)
 have f3_1 : w1.frozen? ⟨w.heap.size + 1 + 1, 3, none⟩ = false := keepFr hB1 (by simp; try omega) (by go_simp)
 have f4_1 : w1.frozen? ⟨w.heap.size + 1 + 1, 4, none⟩ = false := keepFr hB1 (by simp; try omega) (by go_simp)
 clear hB1
 go_wp2_with fail
 refine (S2 _).out.mono ?_
 rintro e2 w2 ⟨rfl, hB2⟩
 have z2_2 : w.heap.size + 1 + 1 < w2.heap.size := by have := hB2.size; omega
 have bl2 : Below w.heap.size w w2 := bl1.trans (hB2.mono (by omega))
 have z0_2 : w.heap.size < w2.heap.size := by omega
 have z1_2 : w.heap.size + 1 < w2.heap.size := by omega
 have zk_2 : kb < w2.heap.size := by omega
 have a0_2 : w2.cell? ⟨w.heap.size, 0, none⟩ = some (.int .i64 a) := cell_later hB2 (by go_simp)
 have a1_2 : w2.cell? ⟨w.heap.size, 1, none⟩ = some (.int .i64 a) := cell_later hB2 (by go_simp)
 have c0_2 : w2.cell? ⟨w.heap.size + 1, 0, none⟩ = some (.int .i64 c) := cell_later hB2 (by go_simp)
 have c1_2 : w2.cell? ⟨w.heap.size + 1, 1, none⟩ = some (.int .i64 c) := cell_later hB2 (by go_simp)
 have r0_2 : w2.cell? ⟨w.heap.size + 1 + 1, 0, none⟩ = some (.int .i64 0) := cell_later hB2 (by go_simp)
 have r1_2 : w2.cell? ⟨w.heap.size + 1 + 1, 1, none⟩ = some (.int .i64 0) := cell_later hB2 (by go_simp)
 have r2_2 : w2.cell? ⟨w.heap.size + 1 + 1, 2, none⟩ = some (.bool false) := cell_later hB2 (by go_simp)
 have r3_2 : w2.cell? ⟨w.heap.size + 1 + 1, 3, none⟩ = some (.bool false) := cell_later hB2 (by go_simp)
 have r4_2 : w2.cell? ⟨w.heap.size + 1 + 1, 4, none⟩ = some (.bool false) := cell_later hB2 (by go_simp)
 have k0_2 : w2.cell? ⟨kb, 0, none⟩ = some (.int .i64 k) := cell_later hB2 (by go_simp)
 have f0_2 : w2.frozen? ⟨w.heap.size + 1 + 1, 0, none⟩ = false := keepFr hB2 (by omega) (by go_simp)
 have f1_2 : w2.frozen? ⟨w.heap.size + 1 + 1, 1, none⟩ = false := keepFr hB2 (by omega) (by go_simp)
 have f2_2 : w2.frozen? ⟨w.heap.size + 1 + 1, 2, none⟩ = false := keepFr hB2 (by omega) (by go_simp)
 have f3_2 : w2.frozen? ⟨w.heap.size + 1 + 1, 3, none⟩ = false := keepFr hB2 (by omega) (by go_simp)
 have f4_2 : w2.frozen? ⟨w.heap.size + 1 + 1, 4, none⟩ = false := keepFr hB2 (by omega) (by go_simp)
 clear hB2 bl1 z0_1 z1_1 z2_1 zk_1 a0_1 a1_1 c0_1 c1_1 k0_1 r0_1 r1_1 r2_1 r3_1 r4_1 f0_1 f1_1 f2_1 f3_1 f4_1
 go_wp2_with fail
 refine (ON _).out.mono ?_
 rintro e3 w3 ⟨rfl, hB3⟩
 have z2_3 : w.heap.size + 1 + 1 < w3.heap.size := by have := hB3.size; omega
 have bl3 : Below w.heap.size w w3 := bl2.trans (hB3.mono (by omega))
 have z0_3 : w.heap.size < w3.heap.size := by omega
 have z1_3 : w.heap.size + 1 < w3.heap.size := by omega
 have zk_3 : kb < w3.heap.size := by omega
 have a0_3 : w3.cell? ⟨w.heap.size, 0, none⟩ = some (.int .i64 a) := cell_later hB3 (by go_simp)
 have a1_3 : w3.cell? ⟨w.heap.size, 1, none⟩ = some (.int .i64 a) := cell_later hB3 (by go_simp)
 have c0_3 : w3.cell? ⟨w.heap.size + 1, 0, none⟩ = some (.int .i64 c) := cell_later hB3 (by go_simp)
 have c1_3 : w3.cell? ⟨w.heap.size + 1, 1, none⟩ = some (.int .i64 c) := cell_later hB3 (by go_simp)
 have r0_3 : w3.cell? ⟨w.heap.size + 1 + 1, 0, none⟩ = some (.int .i64 0) := cell_later hB3 (by go_simp)
 have r1_3 : w3.cell? ⟨w.heap.size + 1 + 1, 1, none⟩ = some (.int .i64 0) := cell_later hB3 (by go_simp)
 have r2_3 : w3.cell? ⟨w.heap.size + 1 + 1, 2, none⟩ = some (.bool false) := cell_later hB3 (by go_simp)
 have r3_3 : w3.cell? ⟨w.heap.size + 1 + 1, 3, none⟩ = some (.bool false) := cell_later hB3 (by go_simp)
 have r4_3 : w3.cell? ⟨w.heap.size + 1 + 1, 4, none⟩ = some (.bool false) := cell_later hB3 (by go_simp)
 have k0_3 : w3.cell? ⟨kb, 0, none⟩ = some (.int .i64 k) := cell_later hB3 (by go_simp)
 have f0_3 : w3.frozen? ⟨w.heap.size + 1 + 1, 0, none⟩ = false := keepFr hB3 (by omega) (by go_simp)
 have f1_3 : w3.frozen? ⟨w.heap.size + 1 + 1, 1, none⟩ = false := keepFr hB3 (by omega) (by go_simp)
 have f2_3 : w3.frozen? ⟨w.heap.size + 1 + 1, 2, none⟩ = false := keepFr hB3 (by omega) (by go_simp)
 have f3_3 : w3.frozen? ⟨w.heap.size + 1 + 1, 3, none⟩ = false := keepFr hB3 (by omega) (by go_simp)
 have f4_3 : w3.frozen? ⟨w.heap.size + 1 + 1, 4, none⟩ = false := keepFr hB3 (by omega) (by go_simp)
 clear hB3 bl2 z0_2 z1_2 z2_2 zk_2 a0_2 a1_2 c0_2 c1_2 k0_2 r0_2 r1_2 r2_2 r3_2 r4_2 f0_2 f1_2 f2_2 f3_2 f4_2
 go_wp2
 refine bodyPost_ret (v := EffV (bits .xor .i64 a c) (bits .xor .i64 a c) true false false) (by simp [results, Try.results86, go_sem, r0_3, r1_3, r2_3, r3_3, r4_3, EffV]) rfl ⟨rfl, ?_⟩
 exact (((bl3.setCell (by simp; try omega) _).setCell (by simp; try omega) _).setCell (by simp; try omega) _)
theorem pbitw_2n (a b c d k x y : Int) (kb : Nat) (w : World) (hkb : kb < w.heap.size) (hk : w.cell? ⟨kb, 0, none⟩ = some (.int .i64 k)) (S1 : Sing a b false) (G : Gives 87 #[.int .i64 k, .int .i64 0, .agg #[.int .i64 a, .int .i64 b], .agg #[.int .i64 c, .int .i64 d]] x y) (SR : Sure x y) :
   Calls Try.prog 86 #[.agg #[.int .i64 a, .int .i64 b], .agg #[.int .i64 c, .int .i64 d], .pointer (some ⟨kb, 0, none⟩)] w fun e w' => e = .returned (EffV (x) (y) true false false) ∧ Below w.heap.size w w' := by
 have hk3 : ∀ o1 o2 o3, (((w.alloc o1).alloc o2).alloc o3).cell? ⟨kb, 0, none⟩ = some (.int .i64 k) := by
   intro o1 o2 o3
   rw [((((Below.refl w.heap.size w).alloc (Nat.le_refl _) o1).alloc (by simp) o2).alloc (by simp; omega) o3).cell (p := ⟨kb, 0, none⟩) hkb]
   exact hk
 clear hk
 go_enter Try.func86, Try.ntmps86
 go_wp2_with fail
 refine (S1 _).out.mono ?_
 rintro e1 w1 ⟨rfl, hB1⟩
 have z2_1 : w.heap.size + 1 + 1 < w1.heap.size := by have := hB1.size; simp at this; omega
 have bl1 : Below w.heap.size w w1 := ((((Below.refl _ _).alloc (Nat.le_refl _) _).alloc (by simp) _).alloc (by simp; omega) _).trans (hB1.mono (by simp; omega))
 have z0_1 : w.heap.size < w1.heap.size := by omega
 have z1_1 : w.heap.size + 1 < w1.heap.size := by omega
 have zk_1 : kb < w1.heap.size := by omega
 have a0_1 : w1.cell? ⟨w.heap.size, 0, none⟩ = some (.int .i64 a) := cell_later hB1 (by go_simp)
 have a1_1 : w1.cell? ⟨w.heap.size, 1, none⟩ = some (.int .i64 b) := cell_later hB1 (by go_simp)
 have c0_1 : w1.cell? ⟨w.heap.size + 1, 0, none⟩ = some (.int .i64 c) := cell_later hB1 (by go_simp)
 have c1_1 : w1.cell? ⟨w.heap.size + 1, 1, none⟩ = some (.int .i64 d) := cell_later hB1 (by go_simp)
 have r0_1 : w1.cell? ⟨w.heap.size + 1 + 1, 0, none⟩ = some (.int .i64 0) := cell_later hB1 (by go_simp)
 have r1_1 : w1.cell? ⟨w.heap.size + 1 + 1, 1, none⟩ = some (.int .i64 0) := cell_later hB1 (by go_simp)
 have r2_1 : w1.cell? ⟨w.heap.size + 1 + 1, 2, none⟩ = some (.bool false) := cell_later hB1 (by go_simp)
 have r3_1 : w1.cell? ⟨w.heap.size + 1 + 1, 3, none⟩ = some (.bool false) := cell_later hB1 (by go_simp)
 have r4_1 : w1.cell? ⟨w.heap.size + 1 + 1, 4, none⟩ = some (.bool false) := cell_later hB1 (by go_simp)
 have k0_1 : w1.cell? ⟨kb, 0, none⟩ = some (.int .i64 k) := cell_later hB1 (by go_simp)
 have f0_1 : w1.frozen? ⟨w.heap.size + 1 + 1, 0, none⟩ = false := keepFr hB1 (by simp; try omega) (by go_simp)
 have f1_1 : w1.frozen? ⟨w.heap.size + 1 + 1, 1, none⟩ = false := keepFr hB1 (by simp; try omega) (by go_simp)
 have f2_1 : w1.frozen? ⟨w.heap.size + 1 + 1, 2, none⟩ = false := keepFr hB1 (by simp; try omega) (by go_simp)
 have f3_1 : w1.frozen? ⟨w.heap.size + 1 + 1, 3, none⟩ = false := keepFr hB1 (by simp; try omega) (by go_simp)
 have f4_1 : w1.frozen? ⟨w.heap.size + 1 + 1, 4, none⟩ = false := keepFr hB1 (by simp; try omega) (by go_simp)
 clear hB1
 go_wp2_with fail
 refine (G _).out.mono ?_
 rintro e2 w2 ⟨rfl, hB2⟩
 have z2_2 : w.heap.size + 1 + 1 < w2.heap.size := by have := hB2.size; omega
 have bl2 : Below w.heap.size w w2 := bl1.trans (hB2.mono (by omega))
 have z0_2 : w.heap.size < w2.heap.size := by omega
 have z1_2 : w.heap.size + 1 < w2.heap.size := by omega
 have zk_2 : kb < w2.heap.size := by omega
 have a0_2 : w2.cell? ⟨w.heap.size, 0, none⟩ = some (.int .i64 a) := cell_later hB2 (by go_simp)
 have a1_2 : w2.cell? ⟨w.heap.size, 1, none⟩ = some (.int .i64 b) := cell_later hB2 (by go_simp)
 have c0_2 : w2.cell? ⟨w.heap.size + 1, 0, none⟩ = some (.int .i64 c) := cell_later hB2 (by go_simp)
 have c1_2 : w2.cell? ⟨w.heap.size + 1, 1, none⟩ = some (.int .i64 d) := cell_later hB2 (by go_simp)
 have r0_2 : w2.cell? ⟨w.heap.size + 1 + 1, 0, none⟩ = some (.int .i64 0) := cell_later hB2 (by go_simp)
 have r1_2 : w2.cell? ⟨w.heap.size + 1 + 1, 1, none⟩ = some (.int .i64 0) := cell_later hB2 (by go_simp)
 have r2_2 : w2.cell? ⟨w.heap.size + 1 + 1, 2, none⟩ = some (.bool false) := cell_later hB2 (by go_simp)
 have r3_2 : w2.cell? ⟨w.heap.size + 1 + 1, 3, none⟩ = some (.bool false) := cell_later hB2 (by go_simp)
 have r4_2 : w2.cell? ⟨w.heap.size + 1 + 1, 4, none⟩ = some (.bool false) := cell_later hB2 (by go_simp)
 have k0_2 : w2.cell? ⟨kb, 0, none⟩ = some (.int .i64 k) := cell_later hB2 (by go_simp)
 have f0_2 : w2.frozen? ⟨w.heap.size + 1 + 1, 0, none⟩ = false := keepFr hB2 (by omega) (by go_simp)
 have f1_2 : w2.frozen? ⟨w.heap.size + 1 + 1, 1, none⟩ = false := keepFr hB2 (by omega) (by go_simp)
 have f2_2 : w2.frozen? ⟨w.heap.size + 1 + 1, 2, none⟩ = false := keepFr hB2 (by omega) (by go_simp)
 have f3_2 : w2.frozen? ⟨w.heap.size + 1 + 1, 3, none⟩ = false := keepFr hB2 (by omega) (by go_simp)
 have f4_2 : w2.frozen? ⟨w.heap.size + 1 + 1, 4, none⟩ = false := keepFr hB2 (by omega) (by go_simp)
 clear hB2 bl1 z0_1 z1_1 z2_1 zk_1 a0_1 a1_1 c0_1 c1_1 k0_1 r0_1 r1_1 r2_1 r3_1 r4_1 f0_1 f1_1 f2_1 f3_1 f4_1
 go_wp2_with fail
 refine (SR _).out.mono ?_
 rintro e3 w3 ⟨rfl, hB3⟩
 have z2_3 : w.heap.size + 1 + 1 < w3.heap.size := by have := hB3.size; omega
 have bl3 : Below w.heap.size w w3 := bl2.trans (hB3.mono (by omega))
 have z0_3 : w.heap.size < w3.heap.size := by omega
 have z1_3 : w.heap.size + 1 < w3.heap.size := by omega
 have zk_3 : kb < w3.heap.size := by omega
 have a0_3 : w3.cell? ⟨w.heap.size, 0, none⟩ = some (.int .i64 a) := cell_later hB3 (by go_simp)
 have a1_3 : w3.cell? ⟨w.heap.size, 1, none⟩ = some (.int .i64 b) := cell_later hB3 (by go_simp)
 have c0_3 : w3.cell? ⟨w.heap.size + 1, 0, none⟩ = some (.int .i64 c) := cell_later hB3 (by go_simp)
 have c1_3 : w3.cell? ⟨w.heap.size + 1, 1, none⟩ = some (.int .i64 d) := cell_later hB3 (by go_simp)
 have r0_3 : w3.cell? ⟨w.heap.size + 1 + 1, 0, none⟩ = some (.int .i64 0) := cell_later hB3 (by go_simp)
 have r1_3 : w3.cell? ⟨w.heap.size + 1 + 1, 1, none⟩ = some (.int .i64 0) := cell_later hB3 (by go_simp)
 have r2_3 : w3.cell? ⟨w.heap.size + 1 + 1, 2, none⟩ = some (.bool false) := cell_later hB3 (by go_simp)
 have r3_3 : w3.cell? ⟨w.heap.size + 1 + 1, 3, none⟩ = some (.bool false) := cell_later hB3 (by go_simp)
 have r4_3 : w3.cell? ⟨w.heap.size + 1 + 1, 4, none⟩ = some (.bool false) := cell_later hB3 (by go_simp)
 have k0_3 : w3.cell? ⟨kb, 0, none⟩ = some (.int .i64 k) := cell_later hB3 (by go_simp)
 have f0_3 : w3.frozen? ⟨w.heap.size + 1 + 1, 0, none⟩ = false := keepFr hB3 (by omega) (by go_simp)
 have f1_3 : w3.frozen? ⟨w.heap.size + 1 + 1, 1, none⟩ = false := keepFr hB3 (by omega) (by go_simp)
 have f2_3 : w3.frozen? ⟨w.heap.size + 1 + 1, 2, none⟩ = false := keepFr hB3 (by omega) (by go_simp)
 have f3_3 : w3.frozen? ⟨w.heap.size + 1 + 1, 3, none⟩ = false := keepFr hB3 (by omega) (by go_simp)
 have f4_3 : w3.frozen? ⟨w.heap.size + 1 + 1, 4, none⟩ = false := keepFr hB3 (by omega) (by go_simp)
 clear hB3 bl2 z0_2 z1_2 z2_2 zk_2 a0_2 a1_2 c0_2 c1_2 k0_2 r0_2 r1_2 r2_2 r3_2 r4_2 f0_2 f1_2 f2_2 f3_2 f4_2
 go_wp2
 refine bodyPost_ret (v := EffV (x) (y) true false false) (by simp [results, Try.results86, go_sem, r0_3, r1_3, r2_3, r3_3, r4_3, EffV]) rfl ⟨rfl, ?_⟩
 exact (((bl3.setCell (by simp; try omega) _).setCell (by simp; try omega) _).setCell (by simp; try omega) _)
theorem pbitw_2m (a c d k x y : Int) (kb : Nat) (w : World) (hkb : kb < w.heap.size) (hk : w.cell? ⟨kb, 0, none⟩ = some (.int .i64 k)) (S1 : Sing a a true) (S2 : Sing c d false) (G : Gives 87 #[.int .i64 k, .int .i64 0, .agg #[.int .i64 a, .int .i64 a], .agg #[.int .i64 c, .int .i64 d]] x y) (SR : Sure x y) :
   Calls Try.prog 86 #[.agg #[.int .i64 a, .int .i64 a], .agg #[.int .i64 c, .int .i64 d], .pointer (some ⟨kb, 0, none⟩)] w fun e w' => e = .returned (EffV (x) (y) true false false) ∧ Below w.heap.size w w' := by
 have hk3 : ∀ o1 o2 o3, (((w.alloc o1).alloc o2).alloc o3).cell? ⟨kb, 0, none⟩ = some (.int .i64 k) := by
   intro o1 o2 o3
   rw [((((Below.refl w.heap.size w).alloc (Nat.le_refl _) o1).alloc (by simp) o2).alloc (by simp; omega) o3).cell (p := ⟨kb, 0, none⟩) hkb]
   exact hk
 clear hk
 go_enter Try.func86, Try.ntmps86
 go_wp2_with fail
 refine (S1 _).out.mono ?_
 rintro e1 w1 ⟨rfl, hB1⟩
 have z2_1 : w.heap.size + 1 + 1 < w1.heap.size := by have := hB1.size; simp at this; omega
 have bl1 : Below w.heap.size w w1 := ((((Below.refl _ _).alloc (Nat.le_refl _) _).alloc (by simp) _).alloc (by simp; omega) _).trans (hB1.mono (by simp; omega))
 have z0_1 : w.heap.size < w1.heap.size := by omega
 have z1_1 : w.heap.size + 1 < w1.heap.size := by omega
 have zk_1 : kb < w1.heap.size := by omega
 have a0_1 : w1.cell? ⟨w.heap.size, 0, none⟩ = some (.int .i64 a) := cell_later hB1 (by go_simp)
 have a1_1 : w1.cell? ⟨w.heap.size, 1, none⟩ = some (.int .i64 a) := cell_later hB1 (by go_simp)
 have c0_1 : w1.cell? ⟨w.heap.size + 1, 0, none⟩ = some (.int .i64 c) := cell_later hB1 (by go_simp)
 have c1_1 : w1.cell? ⟨w.heap.size + 1, 1, none⟩ = some (.int .i64 d) := cell_later hB1 (by go_simp)
 have r0_1 : w1.cell? ⟨w.heap.size + 1 + 1, 0, none⟩ = some (.int .i64 0) := cell_later hB1 (by go_simp)
 have r1_1 : w1.cell? ⟨w.heap.size + 1 + 1, 1, none⟩ = some (.int .i64 0) := cell_later hB1 (by go_simp)
 have r2_1 : w1.cell? ⟨w.heap.size + 1 + 1, 2, none⟩ = some (.bool false) := cell_later hB1 (by go_simp)
 have r3_1 : w1.cell? ⟨w.heap.size + 1 + 1, 3, none⟩ = some (.bool false) := cell_later hB1 (by go_simp)
 have r4_1 : w1.cell? ⟨w.heap.size + 1 + 1, 4, none⟩ = some (.bool false) := cell_later hB1 (by go_simp)
 have k0_1 : w1.cell? ⟨kb, 0, none⟩ = some (.int .i64 k) := cell_later hB1 (by go_simp)
 have f0_1 : w1.frozen? ⟨w.heap.size + 1 + 1, 0, none⟩ = false := keepFr hB1 (by simp; try omega) (by go_simp)
 have f1_1 : w1.frozen? ⟨w.heap.size + 1 + 1, 1, none⟩ = false := keepFr hB1 (by simp; try omega) (by go_simp)
 have f2_1 : w1.frozen? ⟨w.heap.size + 1 + 1, 2, none⟩ = false := keepFr hB1 (by simp; try omega) (by go_simp)
 have f3_1 : w1.frozen? ⟨w.heap.size + 1 + 1, 3, none⟩ = false := keepFr hB1 (by simp; try omega) (by go_simp)
 have f4_1 : w1.frozen? ⟨w.heap.size + 1 + 1, 4, none⟩ = false := keepFr hB1 (by simp; try omega) (by go_simp)
 clear hB1
 go_wp2_with fail
 refine (S2 _).out.mono ?_
 rintro e2 w2 ⟨rfl, hB2⟩
 have z2_2 : w.heap.size + 1 + 1 < w2.heap.size := by have := hB2.size; omega
 have bl2 : Below w.heap.size w w2 := bl1.trans (hB2.mono (by omega))
 have z0_2 : w.heap.size < w2.heap.size := by omega
 have z1_2 : w.heap.size + 1 < w2.heap.size := by omega
 have zk_2 : kb < w2.heap.size := by omega
 have a0_2 : w2.cell? ⟨w.heap.size, 0, none⟩ = some (.int .i64 a) := cell_later hB2 (by go_simp)
 have a1_2 : w2.cell? ⟨w.heap.size, 1, none⟩ = some (.int .i64 a) := cell_later hB2 (by go_simp)
 have c0_2 : w2.cell? ⟨w.heap.size + 1, 0, none⟩ = some (.int .i64 c) := cell_later hB2 (by go_simp)
 have c1_2 : w2.cell? ⟨w.heap.size + 1, 1, none⟩ = some (.int .i64 d) := cell_later hB2 (by go_simp)
 have r0_2 : w2.cell? ⟨w.heap.size + 1 + 1, 0, none⟩ = some (.int .i64 0) := cell_later hB2 (by go_simp)
 have r1_2 : w2.cell? ⟨w.heap.size + 1 + 1, 1, none⟩ = some (.int .i64 0) := cell_later hB2 (by go_simp)
 have r2_2 : w2.cell? ⟨w.heap.size + 1 + 1, 2, none⟩ = some (.bool false) := cell_later hB2 (by go_simp)
 have r3_2 : w2.cell? ⟨w.heap.size + 1 + 1, 3, none⟩ = some (.bool false) := cell_later hB2 (by go_simp)
 have r4_2 : w2.cell? ⟨w.heap.size + 1 + 1, 4, none⟩ = some (.bool false) := cell_later hB2 (by go_simp)
 have k0_2 : w2.cell? ⟨kb, 0, none⟩ = some (.int .i64 k) := cell_later hB2 (by go_simp)
 have f0_2 : w2.frozen? ⟨w.heap.size + 1 + 1, 0, none⟩ = false := keepFr hB2 (by omega) (by go_simp)
 have f1_2 : w2.frozen? ⟨w.heap.size + 1 + 1, 1, none⟩ = false := keepFr hB2 (by omega) (by go_simp)
 have f2_2 : w2.frozen? ⟨w.heap.size + 1 + 1, 2, none⟩ = false := keepFr hB2 (by omega) (by go_simp)
 have f3_2 : w2.frozen? ⟨w.heap.size + 1 + 1, 3, none⟩ = false := keepFr hB2 (by omega) (by go_simp)
 have f4_2 : w2.frozen? ⟨w.heap.size + 1 + 1, 4, none⟩ = false := keepFr hB2 (by omega) (by go_simp)
 clear hB2 bl1 z0_1 z1_1 z2_1 zk_1 a0_1 a1_1 c0_1 c1_1 k0_1 r0_1 r1_1 r2_1 r3_1 r4_1 f0_1 f1_1 f2_1 f3_1 f4_1
 go_wp2_with fail
 refine (G _).out.mono ?_
 rintro e3 w3 ⟨rfl, hB3⟩
 have z2_3 : w.heap.size + 1 + 1 < w3.heap.size := by have := hB3.size; omega
 have bl3 : Below w.heap.size w w3 := bl2.trans (hB3.mono (by omega))
 have z0_3 : w.heap.size < w3.heap.size := by omega
 have z1_3 : w.heap.size + 1 < w3.heap.size := by omega
 have zk_3 : kb < w3.heap.size := by omega
 have a0_3 : w3.cell? ⟨w.heap.size, 0, none⟩ = some (.int .i64 a) := cell_later hB3 (by go_simp)
 have a1_3 : w3.cell? ⟨w.heap.size, 1, none⟩ = some (.int .i64 a) := cell_later hB3 (by go_simp)
 have c0_3 : w3.cell? ⟨w.heap.size + 1, 0, none⟩ = some (.int .i64 c) := cell_later hB3 (by go_simp)
 have c1_3 : w3.cell? ⟨w.heap.size + 1, 1, none⟩ = some (.int .i64 d) := cell_later hB3 (by go_simp)
 have r0_3 : w3.cell? ⟨w.heap.size + 1 + 1, 0, none⟩ = some (.int .i64 0) := cell_later hB3 (by go_simp)
 have r1_3 : w3.cell? ⟨w.heap.size + 1 + 1, 1, none⟩ = some (.int .i64 0) := cell_later hB3 (by go_simp)
 have r2_3 : w3.cell? ⟨w.heap.size + 1 + 1, 2, none⟩ = some (.bool false) := cell_later hB3 (by go_simp)
 have r3_3 : w3.cell? ⟨w.heap.size + 1 + 1, 3, none⟩ = some (.bool false) := cell_later hB3 (by go_simp)
 have r4_3 : w3.cell? ⟨w.heap.size + 1 + 1, 4, none⟩ = some (.bool false) := cell_later hB3 (by go_simp)
 have k0_3 : w3.cell? ⟨kb, 0, none⟩ = some (.int .i64 k) := cell_later hB3 (by go_simp)
 have f0_3 : w3.frozen? ⟨w.heap.size + 1 + 1, 0, none⟩ = false := keepFr hB3 (by omega) (by go_simp)
 have f1_3 : w3.frozen? ⟨w.heap.size + 1 + 1, 1, none⟩ = false := keepFr hB3 (by omega) (by go_simp)
 have f2_3 : w3.frozen? ⟨w.heap.size + 1 + 1, 2, none⟩ = false := keepFr hB3 (by omega) (by go_simp)
 have f3_3 : w3.frozen? ⟨w.heap.size + 1 + 1, 3, none⟩ = false := keepFr hB3 (by omega) (by go_simp)
 have f4_3 : w3.frozen? ⟨w.heap.size + 1 + 1, 4, none⟩ = false := keepFr hB3 (by omega) (by go_simp)
 clear hB3 bl2 z0_2 z1_2 z2_2 zk_2 a0_2 a1_2 c0_2 c1_2 k0_2 r0_2 r1_2 r2_2 r3_2 r4_2 f0_2 f1_2 f2_2 f3_2 f4_2
 go_wp2_with fail
 refine (SR _).out.mono ?_
 rintro e4 w4 ⟨rfl, hB4⟩
 have z2_4 : w.heap.size + 1 + 1 < w4.heap.size := by have := hB4.size; omega
 have bl4 : Below w.heap.size w w4 := bl3.trans (hB4.mono (by omega))
 have z0_4 : w.heap.size < w4.heap.size := by omega
 have z1_4 : w.heap.size + 1 < w4.heap.size := by omega
 have zk_4 : kb < w4.heap.size := by omega
 have a0_4 : w4.cell? ⟨w.heap.size, 0, none⟩ = some (.int .i64 a) := cell_later hB4 (by go_simp)
 have a1_4 : w4.cell? ⟨w.heap.size, 1, none⟩ = some (.int .i64 a) := cell_later hB4 (by go_simp)
 have c0_4 : w4.cell? ⟨w.heap.size + 1, 0, none⟩ = some (.int .i64 c) := cell_later hB4 (by go_simp)
 have c1_4 : w4.cell? ⟨w.heap.size + 1, 1, none⟩ = some (.int .i64 d) := cell_later hB4 (by go_simp)
 have r0_4 : w4.cell? ⟨w.heap.size + 1 + 1, 0, none⟩ = some (.int .i64 0) := cell_later hB4 (by go_simp)
 have r1_4 : w4.cell? ⟨w.heap.size + 1 + 1, 1, none⟩ = some (.int .i64 0) := cell_later hB4 (by go_simp)
 have r2_4 : w4.cell? ⟨w.heap.size + 1 + 1, 2, none⟩ = some (.bool false) := cell_later hB4 (by go_simp)
 have r3_4 : w4.cell? ⟨w.heap.size + 1 + 1, 3, none⟩ = some (.bool false) := cell_later hB4 (by go_simp)
 have r4_4 : w4.cell? ⟨w.heap.size + 1 + 1, 4, none⟩ = some (.bool false) := cell_later hB4 (by go_simp)
 have k0_4 : w4.cell? ⟨kb, 0, none⟩ = some (.int .i64 k) := cell_later hB4 (by go_simp)
 have f0_4 : w4.frozen? ⟨w.heap.size + 1 + 1, 0, none⟩ = false := keepFr hB4 (by omega) (by go_simp)
 have f1_4 : w4.frozen? ⟨w.heap.size + 1 + 1, 1, none⟩ = false := keepFr hB4 (by omega) (by go_simp)
 have f2_4 : w4.frozen? ⟨w.heap.size + 1 + 1, 2, none⟩ = false := keepFr hB4 (by omega) (by go_simp)
 have f3_4 : w4.frozen? ⟨w.heap.size + 1 + 1, 3, none⟩ = false := keepFr hB4 (by omega) (by go_simp)
 have f4_4 : w4.frozen? ⟨w.heap.size + 1 + 1, 4, none⟩ = false := keepFr hB4 (by omega) (by go_simp)
 clear hB4 bl3 z0_3 z1_3 z2_3 zk_3 a0_3 a1_3 c0_3 c1_3 k0_3 r0_3 r1_3 r2_3 r3_3 r4_3 f0_3 f1_3 f2_3 f3_3 f4_3
 go_wp2
 refine bodyPost_ret (v := EffV (x) (y) true false false) (by simp [results, Try.results86, go_sem, r0_4, r1_4, r2_4, r3_4, r4_4, EffV]) rfl ⟨rfl, ?_⟩
 exact (((bl4.setCell (by simp; try omega) _).setCell (by simp; try omega) _).setCell (by simp; try omega) _)
theorem pbitw_3s (a c k : Int) (kb : Nat) (w : World) (hkb : kb < w.heap.size) (hk : w.cell? ⟨kb, 0, none⟩ = some (.int .i64 k)) (S1 : Sing a a true) (S2 : Sing c c true) (ON : Only (bits .or .i64 a c)) :
   Calls Try.prog 88 #[.agg #[.int .i64 a, .int .i64 a], .agg #[.int .i64 c, .int .i64 c], .pointer (some ⟨kb, 0, none⟩)] w fun e w' => e = .returned (EffV (bits .or .i64 a c) (bits .or .i64 a c) true false false) ∧ Below w.heap.size w w' := by
 have hk3 : ∀ o1 o2 o3, (((w.alloc o1).alloc o2).alloc o3).cell? ⟨kb, 0, none⟩ = some (.int .i64 k) := by
   intro o1 o2 o3
   rw [((((Below.refl w.heap.size w).alloc (Nat.le_refl _) o1).alloc (by simp) o2).alloc (by simp; omega) o3).cell (p := ⟨kb, 0, none⟩) hkb]
   exact hk
 clear hk
 go_enter Try.func88, Try.ntmps88
 go_wp2_with fail
 refine (S1 _).out.mono ?_
 rintro e1 w1 ⟨rfl, hB1⟩
 have z2_1 : w.heap.size + 1 + 1 < w1.heap.size := by have := hB1.size; simp at this; omega
 have bl1 : Below w.heap.size w w1 := ((((Below.refl _ _).alloc (Nat.le_refl _) _).alloc (by simp) _).alloc (by simp; omega) _).trans (hB1.mono (by simp; omega))
 have z0_1 : w.heap.size < w1.heap.size := by omega
 have z1_1 : w.heap.size + 1 < w1.heap.size := by omega
 have zk_1 : kb < w1.heap.size := by omega
 have a0_1 : w1.cell? ⟨w.heap.size, 0, none⟩ = some (.int .i64 a) := cell_later hB1 (by go_simp)
 have a1_1 : w1.cell? ⟨w.heap.size, 1, none⟩ = some (.int .i64 a) := cell_later hB1 (by go_simp)
 have c0_1 : w1.cell? ⟨w.heap.size + 1, 0, none⟩ = some (.int .i64 c) := cell_later hB1 (by go_simp)
 have c1_1 : w1.cell? ⟨w.heap.size + 1, 1, none⟩ = some (.int .i64 c) := cell_later hB1 (by go_simp)
 have r0_1 : w1.cell? ⟨w.heap.size + 1 + 1, 0, none⟩ = some (.int .i64 0) := cell_later hB1 (by go_simp)
 have r1_1 : w1.cell? ⟨w.heap.size + 1 + 1, 1, none⟩ = some (.int .i64 0) := cell_later hB1 (by go_simp)
 have r2_1 : w1.cell? ⟨w.heap.size + 1 + 1, 2, none⟩ = some (.bool false) := cell_later hB1 (by go_simp)
 have r3_1 : w1.cell? ⟨w.heap.size + 1 + 1, 3, none⟩ = some (.bool false) := cell_later hB1 (by go_simp)
 have r4_1 : w1.cell? ⟨w.heap.size + 1 + 1, 4, none⟩ = some (.bool false) := cell_later hB1 (by go_simp)
 have k0_1 : w1.cell? ⟨kb, 0, none⟩ = some (.int .i64 k) := cell_later hB1 (by go_simp)
 have f0_1 : w1.frozen? ⟨w.heap.size + 1 + 1, 0, none⟩ = false := keepFr hB1 (by simp; try omega) (by go_simp)
 have f1_1 : w1.frozen? ⟨w.heap.size + 1 + 1, 1, none⟩ = false := keepFr hB1 (by simp; try omega) (by go_simp)
 have f2_1 : w1.frozen? ⟨w.heap.size + 1 + 1, 2, none⟩ = false := keepFr hB1 (by simp; try omega) (by go_simp)
 have f3_1 : w1.frozen? ⟨w.heap.size + 1 + 1, 3, none⟩ = false := keepFr hB1 (by simp; try omega) (by go_simp)
 have f4_1 : w1.frozen? ⟨w.heap.size + 1 + 1, 4, none⟩ = false := keepFr hB1 (by simp; try omega) (by go_simp)
 clear hB1
 go_wp2_with fail
 refine (S2 _).out.mono ?_
 rintro e2 w2 ⟨rfl, hB2⟩
 have z2_2 : w.heap.size + 1 + 1 < w2.heap.size := by have := hB2.size; omega
 have bl2 : Below w.heap.size w w2 := bl1.trans (hB2.mono (by omega))
 have z0_2 : w.heap.size < w2.heap.size := by omega
 have z1_2 : w.heap.size + 1 < w2.heap.size := by omega
 have zk_2 : kb < w2.heap.size := by omega
 have a0_2 : w2.cell? ⟨w.heap.size, 0, none⟩ = some (.int .i64 a) := cell_later hB2 (by go_simp)
 have a1_2 : w2.cell? ⟨w.heap.size, 1, none⟩ = some (.int .i64 a) := cell_later hB2 (by go_simp)
 have c0_2 : w2.cell? ⟨w.heap.size + 1, 0, none⟩ = some (.int .i64 c) := cell_later hB2 (by go_simp)
 have c1_2 : w2.cell? ⟨w.heap.size + 1, 1, none⟩ = some (.int .i64 c) := cell_later hB2 (by go_simp)
 have r0_2 : w2.cell? ⟨w.heap.size + 1 + 1, 0, none⟩ = some (.int .i64 0) := cell_later hB2 (by go_simp)
 have r1_2 : w2.cell? ⟨w.heap.size + 1 + 1, 1, none⟩ = some (.int .i64 0) := cell_later hB2 (by go_simp)
 have r2_2 : w2.cell? ⟨w.heap.size + 1 + 1, 2, none⟩ = some (.bool false) := cell_later hB2 (by go_simp)
 have r3_2 : w2.cell? ⟨w.heap.size + 1 + 1, 3, none⟩ = some (.bool false) := cell_later hB2 (by go_simp)
 have r4_2 : w2.cell? ⟨w.heap.size + 1 + 1, 4, none⟩ = some (.bool false) := cell_later hB2 (by go_simp)
 have k0_2 : w2.cell? ⟨kb, 0, none⟩ = some (.int .i64 k) := cell_later hB2 (by go_simp)
 have f0_2 : w2.frozen? ⟨w.heap.size + 1 + 1, 0, none⟩ = false := keepFr hB2 (by omega) (by go_simp)
 have f1_2 : w2.frozen? ⟨w.heap.size + 1 + 1, 1, none⟩ = false := keepFr hB2 (by omega) (by go_simp)
 have f2_2 : w2.frozen? ⟨w.heap.size + 1 + 1, 2, none⟩ = false := keepFr hB2 (by omega) (by go_simp)
 have f3_2 : w2.frozen? ⟨w.heap.size + 1 + 1, 3, none⟩ = false := keepFr hB2 (by omega) (by go_simp)
 have f4_2 : w2.frozen? ⟨w.heap.size + 1 + 1, 4, none⟩ = false := keepFr hB2 (by omega) (by go_simp)
 clear hB2 bl1 z0_1 z1_1 z2_1 zk_1 a0_1 a1_1 c0_1 c1_1 k0_1 r0_1 r1_1 r2_1 r3_1 r4_1 f0_1 f1_1 f2_1 f3_1 f4_1
 go_wp2_with fail
 refine (ON _).out.mono ?_
 rintro e3 w3 ⟨rfl, hB3⟩
 have z2_3 : w.heap.size + 1 + 1 < w3.heap.size := by have := hB3.size; omega
 have bl3 : Below w.heap.size w w3 := bl2.trans (hB3.mono (by omega))
 have z0_3 : w.heap.size < w3.heap.size := by omega
 have z1_3 : w.heap.size + 1 < w3.heap.size := by omega
 have zk_3 : kb < w3.heap.size := by omega
 have a0_3 : w3.cell? ⟨w.heap.size, 0, none⟩ = some (.int .i64 a) := cell_later hB3 (by go_simp)
 have a1_3 : w3.cell? ⟨w.heap.size, 1, none⟩ = some (.int .i64 a) := cell_later hB3 (by go_simp)
 have c0_3 : w3.cell? ⟨w.heap.size + 1, 0, none⟩ = some (.int .i64 c) := cell_later hB3 (by go_simp)
 have c1_3 : w3.cell? ⟨w.heap.size + 1, 1, none⟩ = some (.int .i64 c) := cell_later hB3 (by go_simp)
 have r0_3 : w3.cell? ⟨w.heap.size + 1 + 1, 0, none⟩ = some (.int .i64 0) := cell_later hB3 (by go_simp)
 have r1_3 : w3.cell? ⟨w.heap.size + 1 + 1, 1, none⟩ = some (.int .i64 0) := cell_later hB3 (by go_simp)
 have r2_3 : w3.cell? ⟨w.heap.size + 1 + 1, 2, none⟩ = some (.bool false) := cell_later hB3 (by go_simp)
 have r3_3 : w3.cell? ⟨w.heap.size + 1 + 1, 3, none⟩ = some (.bool false) := cell_later hB3 (by go_simp)
 have r4_3 : w3.cell? ⟨w.heap.size + 1 + 1, 4, none⟩ = some (.bool false) := cell_later hB3 (by go_simp)
 have k0_3 : w3.cell? ⟨kb, 0, none⟩ = some (.int .i64 k) := cell_later hB3 (by go_simp)
 have f0_3 : w3.frozen? ⟨w.heap.size + 1 + 1, 0, none⟩ = false := keepFr hB3 (by omega) (by go_simp)
 have f1_3 : w3.frozen? ⟨w.heap.size + 1 + 1, 1, none⟩ = false := keepFr hB3 (by omega) (by go_simp)
 have f2_3 : w3.frozen? ⟨w.heap.size + 1 + 1, 2, none⟩ = false := keepFr hB3 (by omega) (by go_simp)
 have f3_3 : w3.frozen? ⟨w.heap.size + 1 + 1, 3, none⟩ = false := keepFr hB3 (by omega) (by go_simp)
 have f4_3 : w3.frozen? ⟨w.heap.size + 1 + 1, 4, none⟩ = false := keepFr hB3 (by omega) (by go_simp)
 clear hB3 bl2 z0_2 z1_2 z2_2 zk_2 a0_2 a1_2 c0_2 c1_2 k0_2 r0_2 r1_2 r2_2 r3_2 r4_2 f0_2 f1_2 f2_2 f3_2 f4_2
 go_wp2
 refine bodyPost_ret (v := EffV (bits .or .i64 a c) (bits .or .i64 a c) true false false) (by simp [results, Try.results88, go_sem, r0_3, r1_3, r2_3, r3_3, r4_3, EffV]) rfl ⟨rfl, ?_⟩
 exact (((bl3.setCell (by simp; try omega) _).setCell (by simp; try omega) _).setCell (by simp; try omega) _)
theorem pbitw_3nlt (a b c d k x y : Int) (kb : Nat) (w : World) (hkb : kb < w.heap.size) (hk : w.cell? ⟨kb, 0, none⟩ = some (.int .i64 k)) (S1 : Sing a b false) (h3 : a < c) (G : Gives 87 #[.int .i64 k, .int .i64 c, .agg #[.int .i64 a, .int .i64 b], .agg #[.int .i64 c, .int .i64 d]] x y) (SR : Sure x y) :
   Calls Try.prog 88 #[.agg #[.int .i64 a, .int .i64 b], .agg #[.int .i64 c, .int .i64 d], .pointer (some ⟨kb, 0, none⟩)] w fun e w' => e = .returned (EffV (x) (y) true false false) ∧ Below w.heap.size w w' := by
 have hk3 : ∀ o1 o2 o3, (((w.alloc o1).alloc o2).alloc o3).cell? ⟨kb, 0, none⟩ = some (.int .i64 k) := by
   intro o1 o2 o3
   rw [((((Below.refl w.heap.size w).alloc (Nat.le_refl _) o1).alloc (by simp) o2).alloc (by simp; omega) o3).cell (p := ⟨kb, 0, none⟩) hkb]
   exact hk
 clear hk
 go_enter Try.func88, Try.ntmps88
 go_wp2_with fail
 refine (S1 _).out.mono ?_
 rintro e1 w1 ⟨rfl, hB1⟩
 have z2_1 : w.heap.size + 1 + 1 < w1.heap.size := by have := hB1.size; simp at this; omega
 have bl1 : Below w.heap.size w w1 := ((((Below.refl _ _).alloc (Nat.le_refl _) _).alloc (by simp) _).alloc (by simp; omega) _).trans (hB1.mono (by simp; omega))
 have z0_1 : w.heap.size < w1.heap.size := by omega
 have z1_1 : w.heap.size + 1 < w1.heap.size := by omega
 have zk_1 : kb < w1.heap.size := by omega
 have a0_1 : w1.cell? ⟨w.heap.size, 0, none⟩ = some (.int .i64 a) := cell_later hB1 (by go_simp)
 have a1_1 : w1.cell? ⟨w.heap.size, 1, none⟩ = some (.int .i64 b) := cell_later hB1 (by go_simp)
 have c0_1 : w1.cell? ⟨w.heap.size + 1, 0, none⟩ = some (.int .i64 c) := cell_later hB1 (by go_simp)
 have c1_1 : w1.cell? ⟨w.heap.size + 1, 1, none⟩ = some (.int .i64 d) := cell_later hB1 (by go_simp)
 have r0_1 : w1.cell? ⟨w.heap.size + 1 + 1, 0, none⟩ = some (.int .i64 0) := cell_later hB1 (by go_simp)
 have r1_1 : w1.cell? ⟨w.heap.size + 1 + 1, 1, none⟩ = some (.int .i64 0) := cell_later hB1 (by go_simp)
 have r2_1 : w1.cell? ⟨w.heap.size + 1 + 1, 2, none⟩ = some (.bool false) := cell_later hB1 (by go_simp)
 have r3_1 : w1.cell? ⟨w.heap.size + 1 + 1, 3, none⟩ = some (.bool false) := cell_later hB1 (by go_simp)
 have r4_1 : w1.cell? ⟨w.heap.size + 1 + 1, 4, none⟩ = some (.bool false) := cell_later hB1 (by go_simp)
 have k0_1 : w1.cell? ⟨kb, 0, none⟩ = some (.int .i64 k) := cell_later hB1 (by go_simp)
 have f0_1 : w1.frozen? ⟨w.heap.size + 1 + 1, 0, none⟩ = false := keepFr hB1 (by simp; try omega) (by go_simp)
 have f1_1 : w1.frozen? ⟨w.heap.size + 1 + 1, 1, none⟩ = false := keepFr hB1 (by simp; try omega) (by go_simp)
 have f2_1 : w1.frozen? ⟨w.heap.size + 1 + 1, 2, none⟩ = false := keepFr hB1 (by simp; try omega) (by go_simp)
 have f3_1 : w1.frozen? ⟨w.heap.size + 1 + 1, 3, none⟩ = false := keepFr hB1 (by simp; try omega) (by go_simp)
 have f4_1 : w1.frozen? ⟨w.heap.size + 1 + 1, 4, none⟩ = false := keepFr hB1 (by simp; try omega) (by go_simp)
 clear hB1
 go_wp2_with fail
 refine (G _).out.mono ?_
 rintro e2 w2 ⟨rfl, hB2⟩
 have z2_2 : w.heap.size + 1 + 1 < w2.heap.size := by have := hB2.size; omega
 have bl2 : Below w.heap.size w w2 := bl1.trans (hB2.mono (by omega))
 have z0_2 : w.heap.size < w2.heap.size := by omega
 have z1_2 : w.heap.size + 1 < w2.heap.size := by omega
 have zk_2 : kb < w2.heap.size := by omega
 have a0_2 : w2.cell? ⟨w.heap.size, 0, none⟩ = some (.int .i64 a) := cell_later hB2 (by go_simp)
 have a1_2 : w2.cell? ⟨w.heap.size, 1, none⟩ = some (.int .i64 b) := cell_later hB2 (by go_simp)
 have c0_2 : w2.cell? ⟨w.heap.size + 1, 0, none⟩ = some (.int .i64 c) := cell_later hB2 (by go_simp)
 have c1_2 : w2.cell? ⟨w.heap.size + 1, 1, none⟩ = some (.int .i64 d) := cell_later hB2 (by go_simp)
 have r0_2 : w2.cell? ⟨w.heap.size + 1 + 1, 0, none⟩ = some (.int .i64 0) := cell_later hB2 (by go_simp)
 have r1_2 : w2.cell? ⟨w.heap.size + 1 + 1, 1, none⟩ = some (.int .i64 0) := cell_later hB2 (by go_simp)
 have r2_2 : w2.cell? ⟨w.heap.size + 1 + 1, 2, none⟩ = some (.bool false) := cell_later hB2 (by go_simp)
 have r3_2 : w2.cell? ⟨w.heap.size + 1 + 1, 3, none⟩ = some (.bool false) := cell_later hB2 (by go_simp)
 have r4_2 : w2.cell? ⟨w.heap.size + 1 + 1, 4, none⟩ = some (.bool false) := cell_later hB2 (by go_simp)
 have k0_2 : w2.cell? ⟨kb, 0, none⟩ = some (.int .i64 k) := cell_later hB2 (by go_simp)
 have f0_2 : w2.frozen? ⟨w.heap.size + 1 + 1, 0, none⟩ = false := keepFr hB2 (by omega) (by go_simp)
 have f1_2 : w2.frozen? ⟨w.heap.size + 1 + 1, 1, none⟩ = false := keepFr hB2 (by omega) (by go_simp)
 have f2_2 : w2.frozen? ⟨w.heap.size + 1 + 1, 2, none⟩ = false := keepFr hB2 (by omega) (by go_simp)
 have f3_2 : w2.frozen? ⟨w.heap.size + 1 + 1, 3, none⟩ = false := keepFr hB2 (by omega) (by go_simp)
 have f4_2 : w2.frozen? ⟨w.heap.size + 1 + 1, 4, none⟩ = false := keepFr hB2 (by omega) (by go_simp)
 clear hB2 bl1 z0_1 z1_1 z2_1 zk_1 a0_1 a1_1 c0_1 c1_1 k0_1 r0_1 r1_1 r2_1 r3_1 r4_1 f0_1 f1_1 f2_1 f3_1 f4_1
 go_wp2_with fail
 refine (SR _).out.mono ?_
 rintro e3 w3 ⟨rfl, hB3⟩
 have z2_3 : w.heap.size + 1 + 1 < w3.heap.size := by have := hB3.size; omega
 have bl3 : Below w.heap.size w w3 := bl2.trans (hB3.mono (by omega))
 have z0_3 : w.heap.size < w3.heap.size := by omega
 have z1_3 : w.heap.size + 1 < w3.heap.size := by omega
 have zk_3 : kb < w3.heap.size := by omega
 have a0_3 : w3.cell? ⟨w.heap.size, 0, none⟩ = some (.int .i64 a) := cell_later hB3 (by go_simp)
 have a1_3 : w3.cell? ⟨w.heap.size, 1, none⟩ = some (.int .i64 b) := cell_later hB3 (by go_simp)
 have c0_3 : w3.cell? ⟨w.heap.size + 1, 0, none⟩ = some (.int .i64 c) := cell_later hB3 (by go_simp)
 have c1_3 : w3.cell? ⟨w.heap.size + 1, 1, none⟩ = some (.int .i64 d) := cell_later hB3 (by go_simp)
 have r0_3 : w3.cell? ⟨w.heap.size + 1 + 1, 0, none⟩ = some (.int .i64 0) := cell_later hB3 (by go_simp)
 have r1_3 : w3.cell? ⟨w.heap.size + 1 + 1, 1, none⟩ = some (.int .i64 0) := cell_later hB3 (by go_simp)
 have r2_3 : w3.cell? ⟨w.heap.size + 1 + 1, 2, none⟩ = some (.bool false) := cell_later hB3 (by go_simp)
 have r3_3 : w3.cell? ⟨w.heap.size + 1 + 1, 3, none⟩ = some (.bool false) := cell_later hB3 (by go_simp)
 have r4_3 : w3.cell? ⟨w.heap.size + 1 + 1, 4, none⟩ = some (.bool false) := cell_later hB3 (by go_simp)
 have k0_3 : w3.cell? ⟨kb, 0, none⟩ = some (.int .i64 k) := cell_later hB3 (by go_simp)
 have f0_3 : w3.frozen? ⟨w.heap.size + 1 + 1, 0, none⟩ = false := keepFr hB3 (by omega) (by go_simp)
 have f1_3 : w3.frozen? ⟨w.heap.size + 1 + 1, 1, none⟩ = false := keepFr hB3 (by omega) (by go_simp)
 have f2_3 : w3.frozen? ⟨w.heap.size + 1 + 1, 2, none⟩ = false := keepFr hB3 (by omega) (by go_simp)
 have f3_3 : w3.frozen? ⟨w.heap.size + 1 + 1, 3, none⟩ = false := keepFr hB3 (by omega) (by go_simp)
 have f4_3 : w3.frozen? ⟨w.heap.size + 1 + 1, 4, none⟩ = false := keepFr hB3 (by omega) (by go_simp)
 clear hB3 bl2 z0_2 z1_2 z2_2 zk_2 a0_2 a1_2 c0_2 c1_2 k0_2 r0_2 r1_2 r2_2 r3_2 r4_2 f0_2 f1_2 f2_2 f3_2 f4_2
 go_wp2
 refine bodyPost_ret (v := EffV (x) (y) true false false) (by simp [results, Try.results88, go_sem, r0_3, r1_3, r2_3, r3_3, r4_3, EffV]) rfl ⟨rfl, ?_⟩
 exact (((bl3.setCell (by simp; try omega) _).setCell (by simp; try omega) _).setCell (by simp; try omega) _)
theorem pbitw_3nge (a b c d k x y : Int) (kb : Nat) (w : World) (hkb : kb < w.heap.size) (hk : w.cell? ⟨kb, 0, none⟩ = some (.int .i64 k)) (S1 : Sing a b false) (h3 : c ≤ a) (G : Gives 87 #[.int .i64 k, .int .i64 a, .agg #[.int .i64 a, .int .i64 b], .agg #[.int .i64 c, .int .i64 d]] x y) (SR : Sure x y) :
   Calls Try.prog 88 #[.agg #[.int .i64 a, .int .i64 b], .agg #[.int .i64 c, .int .i64 d], .pointer (some ⟨kb, 0, none⟩)] w fun e w' => e = .returned (EffV (x) (y) true false false) ∧ Below w.heap.size w w' := by
 have hk3 : ∀ o1 o2 o3, (((w.alloc o1).alloc o2).alloc o3).cell? ⟨kb, 0, none⟩ = some (.int .i64 k) := by
   intro o1 o2 o3
   rw [((((Below.refl w.heap.size w).alloc (Nat.le_refl _) o1).alloc (by simp) o2).alloc (by simp; omega) o3).cell (p := ⟨kb, 0, none⟩) hkb]
   exact hk
 clear hk
 go_enter Try.func88, Try.ntmps88
 go_wp2_with fail
 refine (S1 _).out.mono ?_
 rintro e1 w1 ⟨rfl, hB1⟩
 have z2_1 : w.heap.size + 1 + 1 < w1.heap.size := by have := hB1.size; simp at this; omega
 have bl1 : Below w.heap.size w w1 := ((((Below.refl _ _).alloc (Nat.le_refl _) _).alloc (by simp) _).alloc (by simp; omega) _).trans (hB1.mono (by simp; omega))
 have z0_1 : w.heap.size < w1.heap.size := by omega
 have z1_1 : w.heap.size + 1 < w1.heap.size := by omega
 have zk_1 : kb < w1.heap.size := by omega
 have a0_1 : w1.cell? ⟨w.heap.size, 0, none⟩ = some (.int .i64 a) := cell_later hB1 (by go_simp)
 have a1_1 : w1.cell? ⟨w.heap.size, 1, none⟩ = some (.int .i64 b) := cell_later hB1 (by go_simp)
 have c0_1 : w1.cell? ⟨w.heap.size + 1, 0, none⟩ = some (.int .i64 c) := cell_later hB1 (by go_simp)
 have c1_1 : w1.cell? ⟨w.heap.size + 1, 1, none⟩ = some (.int .i64 d) := cell_later hB1 (by go_simp)
 have r0_1 : w1.cell? ⟨w.heap.size + 1 + 1, 0, none⟩ = some (.int .i64 0) := cell_later hB1 (by go_simp)
 have r1_1 : w1.cell? ⟨w.heap.size + 1 + 1, 1, none⟩ = some (.int .i64 0) := cell_later hB1 (by go_simp)
 have r2_1 : w1.cell? ⟨w.heap.size + 1 + 1, 2, none⟩ = some (.bool false) := cell_later hB1 (by go_simp)
 have r3_1 : w1.cell? ⟨w.heap.size + 1 + 1, 3, none⟩ = some (.bool false) := cell_later hB1 (by go_simp)
 have r4_1 : w1.cell? ⟨w.heap.size + 1 + 1, 4, none⟩ = some (.bool false) := cell_later hB1 (by go_simp)
 have k0_1 : w1.cell? ⟨kb, 0, none⟩ = some (.int .i64 k) := cell_later hB1 (by go_simp)
 have f0_1 : w1.frozen? ⟨w.heap.size + 1 + 1, 0, none⟩ = false := keepFr hB1 (by simp; try omega) (by go_simp)
 have f1_1 : w1.frozen? ⟨w.heap.size + 1 + 1, 1, none⟩ = false := keepFr hB1 (by simp; try omega) (by go_simp)
 have f2_1 : w1.frozen? ⟨w.heap.size + 1 + 1, 2, none⟩ = false := keepFr hB1 (by simp; try omega) (by go_simp)
 have f3_1 : w1.frozen? ⟨w.heap.size + 1 + 1, 3, none⟩ = false := keepFr hB1 (by simp; try omega) (by go_simp)
 have f4_1 : w1.frozen? ⟨w.heap.size + 1 + 1, 4, none⟩ = false := keepFr hB1 (by simp; try omega) (by go_simp)
 clear hB1
 go_wp2_with fail
 refine (G _).out.mono ?_
 rintro e2 w2 ⟨rfl, hB2⟩
 have z2_2 : w.heap.size + 1 + 1 < w2.heap.size := by have := hB2.size; omega
 have bl2 : Below w.heap.size w w2 := bl1.trans (hB2.mono (by omega))
 have z0_2 : w.heap.size < w2.heap.size := by omega
 have z1_2 : w.heap.size + 1 < w2.heap.size := by omega
 have zk_2 : kb < w2.heap.size := by omega
 have a0_2 : w2.cell? ⟨w.heap.size, 0, none⟩ = some (.int .i64 a) := cell_later hB2 (by go_simp)
 have a1_2 : w2.cell? ⟨w.heap.size, 1, none⟩ = some (.int .i64 b) := cell_later hB2 (by go_simp)
 have c0_2 : w2.cell? ⟨w.heap.size + 1, 0, none⟩ = some (.int .i64 c) := cell_later hB2 (by go_simp)
 have c1_2 : w2.cell? ⟨w.heap.size + 1, 1, none⟩ = some (.int .i64 d) := cell_later hB2 (by go_simp)
 have r0_2 : w2.cell? ⟨w.heap.size + 1 + 1, 0, none⟩ = some (.int .i64 0) := cell_later hB2 (by go_simp)
 have r1_2 : w2.cell? ⟨w.heap.size + 1 + 1, 1, none⟩ = some (.int .i64 0) := cell_later hB2 (by go_simp)
 have r2_2 : w2.cell? ⟨w.heap.size + 1 + 1, 2, none⟩ = some (.bool false) := cell_later hB2 (by go_simp)
 have r3_2 : w2.cell? ⟨w.heap.size + 1 + 1, 3, none⟩ = some (.bool false) := cell_later hB2 (by go_simp)
 have r4_2 : w2.cell? ⟨w.heap.size + 1 + 1, 4, none⟩ = some (.bool false) := cell_later hB2 (by go_simp)
 have k0_2 : w2.cell? ⟨kb, 0, none⟩ = some (.int .i64 k) := cell_later hB2 (by go_simp)
 have f0_2 : w2.frozen? ⟨w.heap.size + 1 + 1, 0, none⟩ = false := keepFr hB2 (by omega) (by go_simp)
 have f1_2 : w2.frozen? ⟨w.heap.size + 1 + 1, 1, none⟩ = false := keepFr hB2 (by omega) (by go_simp)
 have f2_2 : w2.frozen? ⟨w.heap.size + 1 + 1, 2, none⟩ = false := keepFr hB2 (by omega) (by go_simp)
 have f3_2 : w2.frozen? ⟨w.heap.size + 1 + 1, 3, none⟩ = false := keepFr hB2 (by omega) (by go_simp)
 have f4_2 : w2.frozen? ⟨w.heap.size + 1 + 1, 4, none⟩ = false := keepFr hB2 (by omega) (by go_simp)
 clear hB2 bl1 z0_1 z1_1 z2_1 zk_1 a0_1 a1_1 c0_1 c1_1 k0_1 r0_1 r1_1 r2_1 r3_1 r4_1 f0_1 f1_1 f2_1 f3_1 f4_1
 go_wp2_with fail
 refine (SR _).out.mono ?_
 rintro e3 w3 ⟨rfl, hB3⟩
 have z2_3 : w.heap.size + 1 + 1 < w3.heap.size := by have := hB3.size; omega
 have bl3 : Below w.heap.size w w3 := bl2.trans (hB3.mono (by omega))
 have z0_3 : w.heap.size < w3.heap.size := by omega
 have z1_3 : w.heap.size + 1 < w3.heap.size := by omega
 have zk_3 : kb < w3.heap.size := by omega
 have a0_3 : w3.cell? ⟨w.heap.size, 0, none⟩ = some (.int .i64 a) := cell_later hB3 (by go_simp)
 have a1_3 : w3.cell? ⟨w.heap.size, 1, none⟩ = some (.int .i64 b) := cell_later hB3 (by go_simp)
 have c0_3 : w3.cell? ⟨w.heap.size + 1, 0, none⟩ = some (.int .i64 c) := cell_later hB3 (by go_simp)
 have c1_3 : w3.cell? ⟨w.heap.size + 1, 1, none⟩ = some (.int .i64 d) := cell_later hB3 (by go_simp)
 have r0_3 : w3.cell? ⟨w.heap.size + 1 + 1, 0, none⟩ = some (.int .i64 0) := cell_later hB3 (by go_simp)
 have r1_3 : w3.cell? ⟨w.heap.size + 1 + 1, 1, none⟩ = some (.int .i64 0) := cell_later hB3 (by go_simp)
 have r2_3 : w3.cell? ⟨w.heap.size + 1 + 1, 2, none⟩ = some (.bool false) := cell_later hB3 (by go_simp)
 have r3_3 : w3.cell? ⟨w.heap.size + 1 + 1, 3, none⟩ = some (.bool false) := cell_later hB3 (by go_simp)
 have r4_3 : w3.cell? ⟨w.heap.size + 1 + 1, 4, none⟩ = some (.bool false) := cell_later hB3 (by go_simp)
 have k0_3 : w3.cell? ⟨kb, 0, none⟩ = some (.int .i64 k) := cell_later hB3 (by go_simp)
 have f0_3 : w3.frozen? ⟨w.heap.size + 1 + 1, 0, none⟩ = false := keepFr hB3 (by omega) (by go_simp)
 have f1_3 : w3.frozen? ⟨w.heap.size + 1 + 1, 1, none⟩ = false := keepFr hB3 (by omega) (by go_simp)
 have f2_3 : w3.frozen? ⟨w.heap.size + 1 + 1, 2, none⟩ = false := keepFr hB3 (by omega) (by go_simp)
 have f3_3 : w3.frozen? ⟨w.heap.size + 1 + 1, 3, none⟩ = false := keepFr hB3 (by omega) (by go_simp)
 have f4_3 : w3.frozen? ⟨w.heap.size + 1 + 1, 4, none⟩ = false := keepFr hB3 (by omega) (by go_simp)
 clear hB3 bl2 z0_2 z1_2 z2_2 zk_2 a0_2 a1_2 c0_2 c1_2 k0_2 r0_2 r1_2 r2_2 r3_2 r4_2 f0_2 f1_2 f2_2 f3_2 f4_2
 go_wp2
 refine bodyPost_ret (v := EffV (x) (y) true false false) (by simp [results, Try.results88, go_sem, r0_3, r1_3, r2_3, r3_3, r4_3, EffV]) rfl ⟨rfl, ?_⟩
 exact (((bl3.setCell (by simp; try omega) _).setCell (by simp; try omega) _).setCell (by simp; try omega) _)
theorem pbitw_3mlt (a c d k x y : Int) (kb : Nat) (w : World) (hkb : kb < w.heap.size) (hk : w.cell? ⟨kb, 0, none⟩ = some (.int .i64 k)) (S1 : Sing a a true) (S2 : Sing c d false) (h3 : a < c) (G : Gives 87 #[.int .i64 k, .int .i64 c, .agg #[.int .i64 a, .int .i64 a], .agg #[.int .i64 c, .int .i64 d]] x y) (SR : Sure x y) :
   Calls Try.prog 88 #[.agg #[.int .i64 a, .int .i64 a], .agg #[.int .i64 c, .int .i64 d], .pointer (some ⟨kb, 0, none⟩)] w fun e w' => e = .returned (EffV (x) (y) true false false) ∧ Below w.heap.size w w' := by
 have hk3 : ∀ o1 o2 o3, (((w.alloc o1).alloc o2).alloc o3).cell? ⟨kb, 0, none⟩ = some (.int .i64 k) := by
   intro o1 o2 o3
   rw [((((Below.refl w.heap.size w).alloc (Nat.le_refl _) o1).alloc (by simp) o2).alloc (by simp; omega) o3).cell (p := ⟨kb, 0, none⟩) hkb]
   exact hk
 clear hk
 go_enter Try.func88, Try.ntmps88
 go_wp2_with fail
 refine (S1 _).out.mono ?_
 rintro e1 w1 ⟨rfl, hB1⟩
 have z2_1 : w.heap.size + 1 + 1 < w1.heap.size := by have := hB1.size; simp at this; omega
 have bl1 : Below w.heap.size w w1 := ((((Below.refl _ _).alloc (Nat.le_refl _) _).alloc (by simp) _).alloc (by simp; omega) _).trans (hB1.mono (by simp; omega))
 have z0_1 : w.heap.size < w1.heap.size := by omega
 have z1_1 : w.heap.size + 1 < w1.heap.size := by omega
 have zk_1 : kb < w1.heap.size := by omega
 have a0_1 : w1.cell? ⟨w.heap.size, 0, none⟩ = some (.int .i64 a) := cell_later hB1 (by go_simp)
 have a1_1 : w1.cell? ⟨w.heap.size, 1, none⟩ = some (.int .i64 a) := cell_later hB1 (by go_simp)
 have c0_1 : w1.cell? ⟨w.heap.size + 1, 0, none⟩ = some (.int .i64 c) := cell_later hB1 (by go_simp)
 have c1_1 : w1.cell? ⟨w.heap.size + 1, 1, none⟩ = some (.int .i64 d) := cell_later hB1 (by go_simp)
 have r0_1 : w1.cell? ⟨w.heap.size + 1 + 1, 0, none⟩ = some (.int .i64 0) := cell_later hB1 (by go_simp)
 have r1_1 : w1.cell? ⟨w.heap.size + 1 + 1, 1, none⟩ = some (.int .i64 0) := cell_later hB1 (by go_simp)
 have r2_1 : w1.cell? ⟨w.heap.size + 1 + 1, 2, none⟩ = some (.bool false) := cell_later hB1 (by go_simp)
 have r3_1 : w1.cell? ⟨w.heap.size + 1 + 1, 3, none⟩ = some (.bool false) := cell_later hB1 (by go_simp)
 have r4_1 : w1.cell? ⟨w.heap.size + 1 + 1, 4, none⟩ = some (.bool false) := cell_later hB1 (by go_simp)
 have k0_1 : w1.cell? ⟨kb, 0, none⟩ = some (.int .i64 k) := cell_later hB1 (by go_simp)
 have f0_1 : w1.frozen? ⟨w.heap.size + 1 + 1, 0, none⟩ = false := keepFr hB1 (by simp; try omega) (by go_simp)
 have f1_1 : w1.frozen? ⟨w.heap.size + 1 + 1, 1, none⟩ = false := keepFr hB1 (by simp; try omega) (by go_simp)
 have f2_1 : w1.frozen? ⟨w.heap.size + 1 + 1, 2, none⟩ = false := keepFr hB1 (by simp; try omega) (by go_simp)
 have f3_1 : w1.frozen? ⟨w.heap.size + 1 + 1, 3, none⟩ = false := keepFr hB1 (by simp; try omega) (by go_simp)
 have f4_1 : w1.frozen? ⟨w.heap.size + 1 + 1, 4, none⟩ = false := keepFr hB1 (by simp; try omega) (by go_simp)
 clear hB1
 go_wp2_with fail
 refine (S2 _).out.mono ?_
 rintro e2 w2 ⟨rfl, hB2⟩
 have z2_2 : w.heap.size + 1 + 1 < w2.heap.size := by have := hB2.size; omega
 have bl2 : Below w.heap.size w w2 := bl1.trans (hB2.mono (by omega))
 have z0_2 : w.heap.size < w2.heap.size := by omega
 have z1_2 : w.heap.size + 1 < w2.heap.size := by omega
 have zk_2 : kb < w2.heap.size := by omega
 have a0_2 : w2.cell? ⟨w.heap.size, 0, none⟩ = some (.int .i64 a) := cell_later hB2 (by go_simp)
 have a1_2 : w2.cell? ⟨w.heap.size, 1, none⟩ = some (.int .i64 a) := cell_later hB2 (by go_simp)
 have c0_2 : w2.cell? ⟨w.heap.size + 1, 0, none⟩ = some (.int .i64 c) := cell_later hB2 (by go_simp)
 have c1_2 : w2.cell? ⟨w.heap.size + 1, 1, none⟩ = some (.int .i64 d) := cell_later hB2 (by go_simp)
 have r0_2 : w2.cell? ⟨w.heap.size + 1 + 1, 0, none⟩ = some (.int .i64 0) := cell_later hB2 (by go_simp)
 have r1_2 : w2.cell? ⟨w.heap.size + 1 + 1, 1, none⟩ = some (.int .i64 0) := cell_later hB2 (by go_simp)
 have r2_2 : w2.cell? ⟨w.heap.size + 1 + 1, 2, none⟩ = some (.bool false) := cell_later hB2 (by go_simp)
 have r3_2 : w2.cell? ⟨w.heap.size + 1 + 1, 3, none⟩ = some (.bool false) := cell_later hB2 (by go_simp)
 have r4_2 : w2.cell? ⟨w.heap.size + 1 + 1, 4, none⟩ = some (.bool false) := cell_later hB2 (by go_simp)
 have k0_2 : w2.cell? ⟨kb, 0, none⟩ = some (.int .i64 k) := cell_later hB2 (by go_simp)
 have f0_2 : w2.frozen? ⟨w.heap.size + 1 + 1, 0, none⟩ = false := keepFr hB2 (by omega) (by go_simp)
 have f1_2 : w2.frozen? ⟨w.heap.size + 1 + 1, 1, none⟩ = false := keepFr hB2 (by omega) (by go_simp)
 have f2_2 : w2.frozen? ⟨w.heap.size + 1 + 1, 2, none⟩ = false := keepFr hB2 (by omega) (by go_simp)
 have f3_2 : w2.frozen? ⟨w.heap.size + 1 + 1, 3, none⟩ = false := keepFr hB2 (by omega) (by go_simp)
 have f4_2 : w2.frozen? ⟨w.heap.size + 1 + 1, 4, none⟩ = false := keepFr hB2 (by omega) (by go_simp)
 clear hB2 bl1 z0_1 z1_1 z2_1 zk_1 a0_1 a1_1 c0_1 c1_1 k0_1 r0_1 r1_1 r2_1 r3_1 r4_1 f0_1 f1_1 f2_1 f3_1 f4_1
 go_wp2_with fail
 refine (G _).out.mono ?_
 rintro e3 w3 ⟨rfl, hB3⟩
 have z2_3 : w.heap.size + 1 + 1 < w3.heap.size := by have := hB3.size; omega
 have bl3 : Below w.heap.size w w3 := bl2.trans (hB3.mono (by omega))
 have z0_3 : w.heap.size < w3.heap.size := by omega
 have z1_3 : w.heap.size + 1 < w3.heap.size := by omega
 have zk_3 : kb < w3.heap.size := by omega
 have a0_3 : w3.cell? ⟨w.heap.size, 0, none⟩ = some (.int .i64 a) := cell_later hB3 (by go_simp)
 have a1_3 : w3.cell? ⟨w.heap.size, 1, none⟩ = some (.int .i64 a) := cell_later hB3 (by go_simp)
 have c0_3 : w3.cell? ⟨w.heap.size + 1, 0, none⟩ = some (.int .i64 c) := cell_later hB3 (by go_simp)
 have c1_3 : w3.cell? ⟨w.heap.size + 1, 1, none⟩ = some (.int .i64 d) := cell_later hB3 (by go_simp)
 have r0_3 : w3.cell? ⟨w.heap.size + 1 + 1, 0, none⟩ = some (.int .i64 0) := cell_later hB3 (by go_simp)
 have r1_3 : w3.cell? ⟨w.heap.size + 1 + 1, 1, none⟩ = some (.int .i64 0) := cell_later hB3 (by go_simp)
 have r2_3 : w3.cell? ⟨w.heap.size + 1 + 1, 2, none⟩ = some (.bool false) := cell_later hB3 (by go_simp)
 have r3_3 : w3.cell? ⟨w.heap.size + 1 + 1, 3, none⟩ = some (.bool false) := cell_later hB3 (by go_simp)
 have r4_3 : w3.cell? ⟨w.heap.size + 1 + 1, 4, none⟩ = some (.bool false) := cell_later hB3 (by go_simp)
 have k0_3 : w3.cell? ⟨kb, 0, none⟩ = some (.int .i64 k) := cell_later hB3 (by go_simp)
 have f0_3 : w3.frozen? ⟨w.heap.size + 1 + 1, 0, none⟩ = false := keepFr hB3 (by omega) (by go_simp)
 have f1_3 : w3.frozen? ⟨w.heap.size + 1 + 1, 1, none⟩ = false := keepFr hB3 (by omega) (by go_simp)
 have f2_3 : w3.frozen? ⟨w.heap.size + 1 + 1, 2, none⟩ = false := keepFr hB3 (by omega) (by go_simp)
 have f3_3 : w3.frozen? ⟨w.heap.size + 1 + 1, 3, none⟩ = false := keepFr hB3 (by omega) (by go_simp)
 have f4_3 : w3.frozen? ⟨w.heap.size + 1 + 1, 4, none⟩ = false := keepFr hB3 (by omega) (by go_simp)
 clear hB3 bl2 z0_2 z1_2 z2_2 zk_2 a0_2 a1_2 c0_2 c1_2 k0_2 r0_2 r1_2 r2_2 r3_2 r4_2 f0_2 f1_2 f2_2 f3_2 f4_2
 go_wp2_with fail
 refine (SR _).out.mono ?_
 rintro e4 w4 ⟨rfl, hB4⟩
 have z2_4 : w.heap.size + 1 + 1 < w4.heap.size := by have := hB4.size; omega
 have bl4 : Below w.heap.size w w4 := bl3.trans (hB4.mono (by omega))
 have z0_4 : w.heap.size < w4.heap.size := by omega
 have z1_4 : w.heap.size + 1 < w4.heap.size := by omega
 have zk_4 : kb < w4.heap.size := by omega
 have a0_4 : w4.cell? ⟨w.heap.size, 0, none⟩ = some (.int .i64 a) := cell_later hB4 (by go_simp)
 have a1_4 : w4.cell? ⟨w.heap.size, 1, none⟩ = some (.int .i64 a) := cell_later hB4 (by go_simp)
 have c0_4 : w4.cell? ⟨w.heap.size + 1, 0, none⟩ = some (.int .i64 c) := cell_later hB4 (by go_simp)
 have c1_4 : w4.cell? ⟨w.heap.size + 1, 1, none⟩ = some (.int .i64 d) := cell_later hB4 (by go_simp)
 have r0_4 : w4.cell? ⟨w.heap.size + 1 + 1, 0, none⟩ = some (.int .i64 0) := cell_later hB4 (by go_simp)
 have r1_4 : w4.cell? ⟨w.heap.size + 1 + 1, 1, none⟩ = some (.int .i64 0) := cell_later hB4 (by go_simp)
 have r2_4 : w4.cell? ⟨w.heap.size + 1 + 1, 2, none⟩ = some (.bool false) := cell_later hB4 (by go_simp)
 have r3_4 : w4.cell? ⟨w.heap.size + 1 + 1, 3, none⟩ = some (.bool false) := cell_later hB4 (by go_simp)
 have r4_4 : w4.cell? ⟨w.heap.size + 1 + 1, 4, none⟩ = some (.bool false) := cell_later hB4 (by go_simp)
 have k0_4 : w4.cell? ⟨kb, 0, none⟩ = some (.int .i64 k) := cell_later hB4 (by go_simp)
 have f0_4 : w4.frozen? ⟨w.heap.size + 1 + 1, 0, none⟩ = false := keepFr hB4 (by omega) (by go_simp)
 have f1_4 : w4.frozen? ⟨w.heap.size + 1 + 1, 1, none⟩ = false := keepFr hB4 (by omega) (by go_simp)
 have f2_4 : w4.frozen? ⟨w.heap.size + 1 + 1, 2, none⟩ = false := keepFr hB4 (by omega) (by go_simp)
 have f3_4 : w4.frozen? ⟨w.heap.size + 1 + 1, 3, none⟩ = false := keepFr hB4 (by omega) (by go_simp)
 have f4_4 : w4.frozen? ⟨w.heap.size + 1 + 1, 4, none⟩ = false := keepFr hB4 (by omega) (by go_simp)
 clear hB4 bl3 z0_3 z1_3 z2_3 zk_3 a0_3 a1_3 c0_3 c1_3 k0_3 r0_3 r1_3 r2_3 r3_3 r4_3 f0_3 f1_3 f2_3 f3_3 f4_3
 go_wp2
 refine bodyPost_ret (v := EffV (x) (y) true false false) (by simp [results, Try.results88, go_sem, r0_4, r1_4, r2_4, r3_4, r4_4, EffV]) rfl ⟨rfl, ?_⟩
 exact (((bl4.setCell (by simp; try omega) _).setCell (by simp; try omega) _).setCell (by simp; try omega) _)
theorem pbitw_3mge (a c d k x y : Int) (kb : Nat) (w : World) (hkb : kb < w.heap.size) (hk : w.cell? ⟨kb, 0, none⟩ = some (.int .i64 k)) (S1 : Sing a a true) (S2 : Sing c d false) (h3 : c ≤ a) (G : Gives 87 #[.int .i64 k, .int .i64 a, .agg #[.int .i64 a, .int .i64 a], .agg #[.int .i64 c, .int .i64 d]] x y) (SR : Sure x y) :
   Calls Try.prog 88 #[.agg #[.int .i64 a, .int .i64 a], .agg #[.int .i64 c, .int .i64 d], .pointer (some ⟨kb, 0, none⟩)] w fun e w' => e = .returned (EffV (x) (y) true false false) ∧ Below w.heap.size w w' := by
 have hk3 : ∀ o1 o2 o3, (((w.alloc o1).alloc o2).alloc o3).cell? ⟨kb, 0, none⟩ = some (.int .i64 k) := by
   intro o1 o2 o3
   rw [((((Below.refl w.heap.size w).alloc (Nat.le_refl _) o1).alloc (by simp) o2).alloc (by simp; omega) o3).cell (p := ⟨kb, 0, none⟩) hkb]
   exact hk
 clear hk
 go_enter Try.func88, Try.ntmps88
 go_wp2_with fail
 refine (S1 _).out.mono ?_
 rintro e1 w1 ⟨rfl, hB1⟩
 have z2_1 : w.heap.size + 1 + 1 < w1.heap.size := by have := hB1.size; simp at this; omega
 have bl1 : Below w.heap.size w w1 := ((((Below.refl _ _).alloc (Nat.le_refl _) _).alloc (by simp) _).alloc (by simp; omega) _).trans (hB1.mono (by simp; omega))
 have z0_1 : w.heap.size < w1.heap.size := by omega
 have z1_1 : w.heap.size + 1 < w1.heap.size := by omega
 have zk_1 : kb < w1.heap.size := by omega
 have a0_1 : w1.cell? ⟨w.heap.size, 0, none⟩ = some (.int .i64 a) := cell_later hB1 (by go_simp)
 have a1_1 : w1.cell? ⟨w.heap.size, 1, none⟩ = some (.int .i64 a) := cell_later hB1 (by go_simp)
 have c0_1 : w1.cell? ⟨w.heap.size + 1, 0, none⟩ = some (.int .i64 c) := cell_later hB1 (by go_simp)
 have c1_1 : w1.cell? ⟨w.heap.size + 1, 1, none⟩ = some (.int .i64 d) := cell_later hB1 (by go_simp)
 have r0_1 : w1.cell? ⟨w.heap.size + 1 + 1, 0, none⟩ = some (.int .i64 0) := cell_later hB1 (by go_simp)
 have r1_1 : w1.cell? ⟨w.heap.size + 1 + 1, 1, none⟩ = some (.int .i64 0) := cell_later hB1 (by go_simp)
 have r2_1 : w1.cell? ⟨w.heap.size + 1 + 1, 2, none⟩ = some (.bool false) := cell_later hB1 (by go_simp)
 have r3_1 : w1.cell? ⟨w.heap.size + 1 + 1, 3, none⟩ = some (.bool false) := cell_later hB1 (by go_simp)
 have r4_1 : w1.cell? ⟨w.heap.size + 1 + 1, 4, none⟩ = some (.bool false) := cell_later hB1 (by go_simp)
 have k0_1 : w1.cell? ⟨kb, 0, none⟩ = some (.int .i64 k) := cell_later hB1 (by go_simp)
 have f0_1 : w1.frozen? ⟨w.heap.size + 1 + 1, 0, none⟩ = false := keepFr hB1 (by simp; try omega) (by go_simp)
 have f1_1 : w1.frozen? ⟨w.heap.size + 1 + 1, 1, none⟩ = false := keepFr hB1 (by simp; try omega) (by go_simp)
 have f2_1 : w1.frozen? ⟨w.heap.size + 1 + 1, 2, none⟩ = false := keepFr hB1 (by simp; try omega) (by go_simp)
 have f3_1 : w1.frozen? ⟨w.heap.size + 1 + 1, 3, none⟩ = false := keepFr hB1 (by simp; try omega) (by go_simp)
 have f4_1 : w1.frozen? ⟨w.heap.size + 1 + 1, 4, none⟩ = false := keepFr hB1 (by simp; try omega) (by go_simp)
 clear hB1
 go_wp2_with fail
 refine (S2 _).out.mono ?_
 rintro e2 w2 ⟨rfl, hB2⟩
 have z2_2 : w.heap.size + 1 + 1 < w2.heap.size := by have := hB2.size; omega
 have bl2 : Below w.heap.size w w2 := bl1.trans (hB2.mono (by omega))
 have z0_2 : w.heap.size < w2.heap.size := by omega
 have z1_2 : w.heap.size + 1 < w2.heap.size := by omega
 have zk_2 : kb < w2.heap.size := by omega
 have a0_2 : w2.cell? ⟨w.heap.size, 0, none⟩ = some (.int .i64 a) := cell_later hB2 (by go_simp)
 have a1_2 : w2.cell? ⟨w.heap.size, 1, none⟩ = some (.int .i64 a) := cell_later hB2 (by go_simp)
 have c0_2 : w2.cell? ⟨w.heap.size + 1, 0, none⟩ = some (.int .i64 c) := cell_later hB2 (by go_simp)
 have c1_2 : w2.cell? ⟨w.heap.size + 1, 1, none⟩ = some (.int .i64 d) := cell_later hB2 (by go_simp)
 have r0_2 : w2.cell? ⟨w.heap.size + 1 + 1, 0, none⟩ = some (.int .i64 0) := cell_later hB2 (by go_simp)
 have r1_2 : w2.cell? ⟨w.heap.size + 1 + 1, 1, none⟩ = some (.int .i64 0) := cell_later hB2 (by go_simp)
 have r2_2 : w2.cell? ⟨w.heap.size + 1 + 1, 2, none⟩ = some (.bool false) := cell_later hB2 (by go_simp)
 have r3_2 : w2.cell? ⟨w.heap.size + 1 + 1, 3, none⟩ = some (.bool false) := cell_later hB2 (by go_simp)
 have r4_2 : w2.cell? ⟨w.heap.size + 1 + 1, 4, none⟩ = some (.bool false) := cell_later hB2 (by go_simp)
 have k0_2 : w2.cell? ⟨kb, 0, none⟩ = some (.int .i64 k) := cell_later hB2 (by go_simp)
 have f0_2 : w2.frozen? ⟨w.heap.size + 1 + 1, 0, none⟩ = false := keepFr hB2 (by omega) (by go_simp)
 have f1_2 : w2.frozen? ⟨w.heap.size + 1 + 1, 1, none⟩ = false := keepFr hB2 (by omega) (by go_simp)
 have f2_2 : w2.frozen? ⟨w.heap.size + 1 + 1, 2, none⟩ = false := keepFr hB2 (by omega) (by go_simp)
 have f3_2 : w2.frozen? ⟨w.heap.size + 1 + 1, 3, none⟩ = false := keepFr hB2 (by omega) (by go_simp)
 have f4_2 : w2.frozen? ⟨w.heap.size + 1 + 1, 4, none⟩ = false := keepFr hB2 (by omega) (by go_simp)
 clear hB2 bl1 z0_1 z1_1 z2_1 zk_1 a0_1 a1_1 c0_1 c1_1 k0_1 r0_1 r1_1 r2_1 r3_1 r4_1 f0_1 f1_1 f2_1 f3_1 f4_1
 go_wp2_with fail
 refine (G _).out.mono ?_
 rintro e3 w3 ⟨rfl, hB3⟩
 have z2_3 : w.heap.size + 1 + 1 < w3.heap.size := by have := hB3.size; omega
 have bl3 : Below w.heap.size w w3 := bl2.trans (hB3.mono (by omega))
 have z0_3 : w.heap.size < w3.heap.size := by omega
 have z1_3 : w.heap.size + 1 < w3.heap.size := by omega
 have zk_3 : kb < w3.heap.size := by omega
 have a0_3 : w3.cell? ⟨w.heap.size, 0, none⟩ = some (.int .i64 a) := cell_later hB3 (by go_simp)
 have a1_3 : w3.cell? ⟨w.heap.size, 1, none⟩ = some (.int .i64 a) := cell_later hB3 (by go_simp)
 have c0_3 : w3.cell? ⟨w.heap.size + 1, 0, none⟩ = some (.int .i64 c) := cell_later hB3 (by go_simp)
 have c1_3 : w3.cell? ⟨w.heap.size + 1, 1, none⟩ = some (.int .i64 d) := cell_later hB3 (by go_simp)
 have r0_3 : w3.cell? ⟨w.heap.size + 1 + 1, 0, none⟩ = some (.int .i64 0) := cell_later hB3 (by go_simp)
 have r1_3 : w3.cell? ⟨w.heap.size + 1 + 1, 1, none⟩ = some (.int .i64 0) := cell_later hB3 (by go_simp)
 have r2_3 : w3.cell? ⟨w.heap.size + 1 + 1, 2, none⟩ = some (.bool false) := cell_later hB3 (by go_simp)
 have r3_3 : w3.cell? ⟨w.heap.size + 1 + 1, 3, none⟩ = some (.bool false) := cell_later hB3 (by go_simp)
 have r4_3 : w3.cell? ⟨w.heap.size + 1 + 1, 4, none⟩ = some (.bool false) := cell_later hB3 (by go_simp)
 have k0_3 : w3.cell? ⟨kb, 0, none⟩ = some (.int .i64 k) := cell_later hB3 (by go_simp)
 have f0_3 : w3.frozen? ⟨w.heap.size + 1 + 1, 0, none⟩ = false := keepFr hB3 (by omega) (by go_simp)
 have f1_3 : w3.frozen? ⟨w.heap.size + 1 + 1, 1, none⟩ = false := keepFr hB3 (by omega) (by go_simp)
 have f2_3 : w3.frozen? ⟨w.heap.size + 1 + 1, 2, none⟩ = false := keepFr hB3 (by omega) (by go_simp)
 have f3_3 : w3.frozen? ⟨w.heap.size + 1 + 1, 3, none⟩ = false := keepFr hB3 (by omega) (by go_simp)
 have f4_3 : w3.frozen? ⟨w.heap.size + 1 + 1, 4, none⟩ = false := keepFr hB3 (by omega) (by go_simp)
 clear hB3 bl2 z0_2 z1_2 z2_2 zk_2 a0_2 a1_2 c0_2 c1_2 k0_2 r0_2 r1_2 r2_2 r3_2 r4_2 f0_2 f1_2 f2_2 f3_2 f4_2
 go_wp2_with fail
 refine (SR _).out.mono ?_
 rintro e4 w4 ⟨rfl, hB4⟩
 have z2_4 : w.heap.size + 1 + 1 < w4.heap.size := by have := hB4.size; omega
 have bl4 : Below w.heap.size w w4 := bl3.trans (hB4.mono (by omega))
 have z0_4 : w.heap.size < w4.heap.size := by omega
 have z1_4 : w.heap.size + 1 < w4.heap.size := by omega
 have zk_4 : kb < w4.heap.size := by omega
 have a0_4 : w4.cell? ⟨w.heap.size, 0, none⟩ = some (.int .i64 a) := cell_later hB4 (by go_simp)
 have a1_4 : w4.cell? ⟨w.heap.size, 1, none⟩ = some (.int .i64 a) := cell_later hB4 (by go_simp)
 have c0_4 : w4.cell? ⟨w.heap.size + 1, 0, none⟩ = some (.int .i64 c) := cell_later hB4 (by go_simp)
 have c1_4 : w4.cell? ⟨w.heap.size + 1, 1, none⟩ = some (.int .i64 d) := cell_later hB4 (by go_simp)
 have r0_4 : w4.cell? ⟨w.heap.size + 1 + 1, 0, none⟩ = some (.int .i64 0) := cell_later hB4 (by go_simp)
 have r1_4 : w4.cell? ⟨w.heap.size + 1 + 1, 1, none⟩ = some (.int .i64 0) := cell_later hB4 (by go_simp)
 have r2_4 : w4.cell? ⟨w.heap.size + 1 + 1, 2, none⟩ = some (.bool false) := cell_later hB4 (by go_simp)
 have r3_4 : w4.cell? ⟨w.heap.size + 1 + 1, 3, none⟩ = some (.bool false) := cell_later hB4 (by go_simp)
 have r4_4 : w4.cell? ⟨w.heap.size + 1 + 1, 4, none⟩ = some (.bool false) := cell_later hB4 (by go_simp)
 have k0_4 : w4.cell? ⟨kb, 0, none⟩ = some (.int .i64 k) := cell_later hB4 (by go_simp)
 have f0_4 : w4.frozen? ⟨w.heap.size + 1 + 1, 0, none⟩ = false := keepFr hB4 (by omega) (by go_simp)
 have f1_4 : w4.frozen? ⟨w.heap.size + 1 + 1, 1, none⟩ = false := keepFr hB4 (by omega) (by go_simp)
 have f2_4 : w4.frozen? ⟨w.heap.size + 1 + 1, 2, none⟩ = false := keepFr hB4 (by omega) (by go_simp)
 have f3_4 : w4.frozen? ⟨w.heap.size + 1 + 1, 3, none⟩ = false := keepFr hB4 (by omega) (by go_simp)
 have f4_4 : w4.frozen? ⟨w.heap.size + 1 + 1, 4, none⟩ = false := keepFr hB4 (by omega) (by go_simp)
 clear hB4 bl3 z0_3 z1_3 z2_3 zk_3 a0_3 a1_3 c0_3 c1_3 k0_3 r0_3 r1_3 r2_3 r3_3 r4_3 f0_3 f1_3 f2_3 f3_3 f4_3
 go_wp2
 refine bodyPost_ret (v := EffV (x) (y) true false false) (by simp [results, Try.results88, go_sem, r0_4, r1_4, r2_4, r3_4, r4_4, EffV]) rfl ⟨rfl, ?_⟩
 exact (((bl4.setCell (by simp; try omega) _).setCell (by simp; try omega) _).setCell (by simp; try omega) _)
end Go.Proofs.Ytgkhldbnljdeiaa
namespace Go.Proofs.Ytgkhldbnljdeiaa
open Go.RowKit RangesMath Go.MapKept
theorem ent_b1 : Enters 82 := fun _ _ => by kernel_rfl
theorem ent_b2 : Enters 86 := fun _ _ => by kernel_rfl
theorem ent_b3 : Enters 88 := fun _ _ => by kernel_rfl
theorem bits_eff (op k a b c d x y : Int) (s t u : Bool) (g i : Nat) (hf : ∀ n, Instr.findNow (.int .i64) (.int .i64 op) (bitwiseEs n).toList 0 = some (some (i, .func (.func g) #[] #[.pointer (some ⟨n, 0, none⟩)]))) (hE : Enters g) (hM : MakesAt g k a b c d x y s t u) (w : World) :
   Calls Try.prog 59 #[.int .i64 k] w (FindEff op a b c d x y s t u w) := by
 refine (pbitwise k w).mono ?_
 rintro e w' ⟨b', rfl, hb, hl, hk, hz, hB⟩
 refine ⟨_, g, _, rfl, hB, run_look Try.underlying100 Try.underlying3 hb (hf _) true, hE, ?_⟩
 intro w2 h2
 exact hM w.heap.size w2 (Nat.lt_of_lt_of_le hz h2.size) ((h2.cell (p := ⟨w.heap.size, 0, none⟩) hz).trans hk)
/-- Binary, where the kind has numbers and the operator is one of bits: from what its closure makes. -/
theorem binary_bits (op k a b c d x y : Int) (s t u : Bool) (hk : k = 1 ∨ k = 2) (ho : 8 ≤ op ∧ op ≤ 10) (F : ∀ w, Calls Try.prog 59 #[.int .i64 k] w (FindEff op a b c d x y s t u w)) (h1 : okB k a b = true) (h2 : okB k c d = true) (w : World) :
   Calls Try.prog 21 #[.int .i64 op, .int .i64 k, .agg #[.int .i64 a, .int .i64 b], .agg #[.int .i64 c, .int .i64 d]] w fun e w' => e = .returned (.tuple #[.agg #[.int .i64 x, .int .i64 y, .bool s, .bool t, .bool u], .int .i64 0]) ∧ Below w.heap.size w w' := by
 have A := are2_any k a b c d
 rw [h1, h2] at A
 have C := comp_nil k op (by simp only [cmpOK, Bool.and_eq_false_iff, decide_eq_false_iff_not]; omega)
 refine pbinary_ok op k a b c d x y s t u w (fun w => Lib.hid ?_) A
 rcases hk with rfl | rfl
 · exact pbof_bits_1 op a b c d x y s t u w C (fun w => Lib.hid (F w))
 · exact pbof_bits_2 op a b c d x y s t u w C (fun w => Lib.hid (F w))
theorem sing_yes (a : Int) : Sing a a true := fun w => Lib.hid (by have e := psingle_any a a w; rwa [beq_self_eq_true] at e)
theorem sing_no {a b : Int} (h : ¬ a = b) : Sing a b false := fun w => Lib.hid (by have e := psingle_any a b w; rwa [show (a == b) = false by simpa using h] at e)
theorem sure_of (x y : Int) : Sure x y := fun w => Lib.hid (psure_any x y w)
theorem only_of (v : Int) : Only v := fun w => Lib.hid (ponly v w)
theorem bits_and (k a b c d : Int) : MakesAt 82 k a b c d (bitsS 8 k a b c d).1 (bitsS 8 k a b c d).2 true false false := by
 intro kb w hkb hk
 by_cases s : a = b ∧ c = d
 · obtain ⟨rfl, rfl⟩ := s
   have e : bitsS 8 k a a c c = (bits .and .i64 a c, bits .and .i64 a c) := by unfold bitsS; rw [if_pos ⟨rfl, rfl⟩]; rfl
   rw [e]
   exact pbitw_1s a c k kb w hkb hk (sing_yes a) (sing_yes c) (only_of _)
 · have e : bitsS 8 k a b c d = conjS k a b c d := by unfold bitsS conjS; rw [if_neg s, if_pos rfl]; rfl
   rw [e]
   have G : Gives 85 #[.int .i64 k, .agg #[.int .i64 a, .int .i64 b], .agg #[.int .i64 c, .int .i64 d]] (conjS k a b c d).1 (conjS k a b c d).2 := fun w => Lib.hid (pconj_any k a b c d w)
   by_cases ha : a = b
   · subst ha
     exact pbitw_1m a c d k _ _ kb w hkb hk (sing_yes a) (sing_no (by simpa using s)) G (sure_of _ _)
   · exact pbitw_1n a b c d k _ _ kb w hkb hk (sing_no ha) G (sure_of _ _)
theorem bits_xor (k a b c d : Int) (h1 : Ok64 a b) (h2 : Ok64 c d) : MakesAt 86 k a b c d (bitsS 9 k a b c d).1 (bitsS 9 k a b c d).2 true false false := by
 intro kb w hkb hk
 by_cases s : a = b ∧ c = d
 · obtain ⟨rfl, rfl⟩ := s
   have e : bitsS 9 k a a c c = (bits .xor .i64 a c, bits .xor .i64 a c) := by unfold bitsS; rw [if_pos ⟨rfl, rfl⟩]; rfl
   rw [e]
   exact pbitw_2s a c k kb w hkb hk (sing_yes a) (sing_yes c) (only_of _)
 · have e : bitsS 9 k a b c d = fillS k 0 a b c d := by unfold bitsS fillS; rw [if_neg s, if_neg (by omega), if_pos rfl]; rfl
   rw [e]
   have G : Gives 87 #[.int .i64 k, .int .i64 0, .agg #[.int .i64 a, .int .i64 b], .agg #[.int .i64 c, .int .i64 d]] (fillS k 0 a b c d).1 (fillS k 0 a b c d).2 := fun w => Lib.hid (pfill_any k 0 a b c d w h1.hi h2.hi h1.le h2.le)
   by_cases ha : a = b
   · subst ha
     exact pbitw_2m a c d k _ _ kb w hkb hk (sing_yes a) (sing_no (by simpa using s)) G (sure_of _ _)
   · exact pbitw_2n a b c d k _ _ kb w hkb hk (sing_no ha) G (sure_of _ _)
theorem bits_or (k a b c d : Int) (h1 : Ok64 a b) (h2 : Ok64 c d) : MakesAt 88 k a b c d (bitsS 10 k a b c d).1 (bitsS 10 k a b c d).2 true false false := by
 intro kb w hkb hk
 by_cases s : a = b ∧ c = d
 · obtain ⟨rfl, rfl⟩ := s
   have e : bitsS 10 k a a c c = (bits .or .i64 a c, bits .or .i64 a c) := by unfold bitsS; rw [if_pos ⟨rfl, rfl⟩]; rfl
   rw [e]
   exact pbitw_3s a c k kb w hkb hk (sing_yes a) (sing_yes c) (only_of _)
 · have e : bitsS 10 k a b c d = fillS k (max a c) a b c d := by unfold bitsS fillS; rw [if_neg s, if_neg (by omega), if_neg (show ¬ (10 : Int) = 9 by omega)]; rfl
   rw [e]
   have G : Gives 87 #[.int .i64 k, .int .i64 (max a c), .agg #[.int .i64 a, .int .i64 b], .agg #[.int .i64 c, .int .i64 d]] (fillS k (max a c) a b c d).1 (fillS k (max a c) a b c d).2 := fun w => Lib.hid (pfill_any k (max a c) a b c d w h1.hi h2.hi h1.le h2.le)
   revert G
   generalize fillS k (max a c) a b c d = F
   intro G
   by_cases h3 : a < c
   · rw [show max a c = c by omega] at G
     by_cases ha : a = b
     · subst ha
       exact pbitw_3mlt a c d k _ _ kb w hkb hk (sing_yes a) (sing_no (by simpa using s)) h3 G (sure_of _ _)
     · exact pbitw_3nlt a b c d k _ _ kb w hkb hk (sing_no ha) h3 G (sure_of _ _)
   · rw [show max a c = a by omega] at G
     by_cases ha : a = b
     · subst ha
       exact pbitw_3mge a c d k _ _ kb w hkb hk (sing_yes a) (sing_no (by simpa using s)) (by omega) G (sure_of _ _)
     · exact pbitw_3nge a b c d k _ _ kb w hkb hk (sing_no ha) (by omega) G (sure_of _ _)
theorem bin_and (k a b c d : Int) (hk : k = 1 ∨ k = 2) (h1 : checkErr k a b = 0) (h2 : checkErr k c d = 0) : BinIs 8 k a b c d := fun w =>
 binary_bits 8 k a b c d _ _ true false false hk (by omega) (fun w => bits_eff 8 k a b c d _ _ true false false 82 0 (fun n => rfl) ent_b1 (bits_and k a b c d) w) (okB_of h1) (okB_of h2) w
theorem bin_xor (k a b c d : Int) (hk : k = 1 ∨ k = 2) (h1 : checkErr k a b = 0) (h2 : checkErr k c d = 0) : BinIs 9 k a b c d := fun w =>
 binary_bits 9 k a b c d _ _ true false false hk (by omega) (fun w => bits_eff 9 k a b c d _ _ true false false 86 1 (fun n => rfl) ent_b2 (bits_xor k a b c d (check_ok64 h1) (check_ok64 h2)) w) (okB_of h1) (okB_of h2) w
theorem bin_or (k a b c d : Int) (hk : k = 1 ∨ k = 2) (h1 : checkErr k a b = 0) (h2 : checkErr k c d = 0) : BinIs 10 k a b c d := fun w =>
 binary_bits 10 k a b c d _ _ true false false hk (by omega) (fun w => bits_eff 10 k a b c d _ _ true false false 88 2 (fun n => rfl) ent_b3 (bits_or k a b c d (check_ok64 h1) (check_ok64 h2)) w) (okB_of h1) (okB_of h2) w
end Go.Proofs.Ytgkhldbnljdeiaa
