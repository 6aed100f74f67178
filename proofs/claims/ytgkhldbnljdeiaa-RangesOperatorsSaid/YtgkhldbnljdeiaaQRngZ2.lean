/- The contract of into of layer 4. -/
import Derived.Test.YtgkhldbnljdeiaaQRngZToLowMath
set_option maxRecDepth 100000
set_option maxHeartbeats 2000000
set_option linter.unusedSimpArgs false
set_option linter.unusedVariables false
namespace Go.Proofs.Ytgkhldbnljdeiaa
open Go.RowKit
attribute [local go_sem] World.setCell_self
def IntoOut (x y : Int) (w : World) (e : Ending) (w' : World) : Prop := e = .returned (.agg #[.int .i64 x, .int .i64 y]) ∧ Below w.heap.size w w'
theorem pinto_2a (p q s : Int) (w : World) (h : (wrap64 q / 256 == wrap64 s / 256) = true) :
   Calls Try.prog 44 #[.agg #[.int .i64 p, .int .u64 q, .int .i64 p, .int .u64 s], .int .i64 2] w (IntoOut (bits .and .i64 (wrap64 q) 255) (bits .and .i64 (wrap64 s) 255) w) := by
 go_enter Try.func44, Try.ntmps44
 go_wp2_with fail
 go_region
 go_wp2
 refine bodyPost_ret (v := .agg #[.int .i64 (bits .and .i64 (wrap64 q) 255), .int .i64 (bits .and .i64 (wrap64 s) 255)]) (by simp [results, Try.results44, go_sem]) rfl ⟨rfl, ?_⟩
 exact (((Below.refl _ _).alloc (Nat.le_refl _) _).alloc (by simp) _).drew
theorem pinto_2b (p q r s x y e : Int) (w : World) (h : (wrap64 q / 256 == wrap64 s / 256) = false) (F : ∀ w, Hid (Calls Try.prog 11 #[.int .i64 2] w fun e' w' => e' = .returned (.tuple #[.agg #[.int .i64 x, .int .i64 y], .int .i64 e]) ∧ Below w.heap.size w w')) :
   Calls Try.prog 44 #[.agg #[.int .i64 p, .int .u64 q, .int .i64 p, .int .u64 s], .int .i64 2] w (IntoOut x y w) := by
 go_enter Try.func44, Try.ntmps44
 go_wp2_with fail
 go_region
 go_wp2_with fail
 refine (F _).out.mono ?_
 rintro ee w1 ⟨rfl, hB1⟩
 have z1 : w.heap.size + 1 < w1.heap.size := by have := hB1.size; simp at this; omega
 have b1 : Below w.heap.size w w1 := ((((Below.refl _ _).alloc (Nat.le_refl _) _).alloc (by simp) _).drew).trans (hB1.mono (by simp; try omega))
 have c0 : w1.cell? ⟨w.heap.size + 1, 0, none⟩ = some (.int .i64 0) := cell_later hB1 (by go_simp)
 have c1 : w1.cell? ⟨w.heap.size + 1, 1, none⟩ = some (.int .i64 0) := cell_later hB1 (by go_simp)
 have f0 : w1.frozen? ⟨w.heap.size + 1, 0, none⟩ = false := keepFr hB1 (by simp) (by go_simp)
 have f1 : w1.frozen? ⟨w.heap.size + 1, 1, none⟩ = false := keepFr hB1 (by simp) (by go_simp)
 clear hB1
 go_wp2
 refine bodyPost_ret (v := .agg #[.int .i64 x, .int .i64 y]) (by simp [results, Try.results44, go_sem, c0, c1, z1]) rfl ⟨rfl, ?_⟩
 exact ((b1.setCell (by simp) _).setCell (by simp) _).alloc (by simp [World.setCell]; omega) _
theorem pinto_2c (p q r s x y e : Int) (w : World) (h : (p == r) = false) (F : ∀ w, Hid (Calls Try.prog 11 #[.int .i64 2] w fun e' w' => e' = .returned (.tuple #[.agg #[.int .i64 x, .int .i64 y], .int .i64 e]) ∧ Below w.heap.size w w')) :
   Calls Try.prog 44 #[.agg #[.int .i64 p, .int .u64 q, .int .i64 r, .int .u64 s], .int .i64 2] w (IntoOut x y w) := by
 go_enter Try.func44, Try.ntmps44
 go_wp2_with fail
 go_region
 go_wp2_with fail
 refine (F _).out.mono ?_
 rintro ee w1 ⟨rfl, hB1⟩
 have z1 : w.heap.size + 1 < w1.heap.size := by have := hB1.size; simp at this; omega
 have b1 : Below w.heap.size w w1 := ((((Below.refl _ _).alloc (Nat.le_refl _) _).alloc (by simp) _).drew).trans (hB1.mono (by simp; try omega))
 have c0 : w1.cell? ⟨w.heap.size + 1, 0, none⟩ = some (.int .i64 0) := cell_later hB1 (by go_simp)
 have c1 : w1.cell? ⟨w.heap.size + 1, 1, none⟩ = some (.int .i64 0) := cell_later hB1 (by go_simp)
 have f0 : w1.frozen? ⟨w.heap.size + 1, 0, none⟩ = false := keepFr hB1 (by simp) (by go_simp)
 have f1 : w1.frozen? ⟨w.heap.size + 1, 1, none⟩ = false := keepFr hB1 (by simp) (by go_simp)
 clear hB1
 go_wp2
 refine bodyPost_ret (v := .agg #[.int .i64 x, .int .i64 y]) (by simp [results, Try.results44, go_sem, c0, c1, z1]) rfl ⟨rfl, ?_⟩
 exact ((b1.setCell (by simp) _).setCell (by simp) _).alloc (by simp [World.setCell]; omega) _
theorem pinto_1b (p q r s x y e : Int) (w : World)  (F : ∀ w, Hid (Calls Try.prog 11 #[.int .i64 1] w fun e' w' => e' = .returned (.tuple #[.agg #[.int .i64 x, .int .i64 y], .int .i64 e]) ∧ Below w.heap.size w w')) (V1 : ∀ w, Hid (Calls Try.prog 70 #[.agg #[.int .i64 p, .int .u64 q]] w fun e w' => e = .returned (.bool false) ∧ Below w.heap.size w w')) :
   Calls Try.prog 44 #[.agg #[.int .i64 p, .int .u64 q, .int .i64 r, .int .u64 s], .int .i64 1] w (IntoOut x y w) := by
 go_enter Try.func44, Try.ntmps44
 go_wp2_with fail
 go_region
 go_wp2_with fail
 refine (V1 _).out.mono ?_
 rintro ev1 v1 ⟨rfl, hV1⟩
 have zv1 : w.heap.size + 1 < v1.heap.size := by have := hV1.size; simp at this; omega
 have zw1 : w.heap.size < v1.heap.size := by omega
 have bv1 : Below w.heap.size w v1 := ((((Below.refl _ _).alloc (Nat.le_refl _) _).alloc (by simp) _).drew).trans (hV1.mono (by simp; try omega))
 have i0 : v1.cell? ⟨w.heap.size, 0, none⟩ = some (.int .i64 p) := cell_later hV1 (by go_simp)
 have i1 : v1.cell? ⟨w.heap.size, 1, none⟩ = some (.int .u64 q) := cell_later hV1 (by go_simp)
 have i2 : v1.cell? ⟨w.heap.size, 2, none⟩ = some (.int .i64 r) := cell_later hV1 (by go_simp)
 have i3 : v1.cell? ⟨w.heap.size, 3, none⟩ = some (.int .u64 s) := cell_later hV1 (by go_simp)
 have c0 : v1.cell? ⟨w.heap.size + 1, 0, none⟩ = some (.int .i64 0) := cell_later hV1 (by go_simp)
 have c1 : v1.cell? ⟨w.heap.size + 1, 1, none⟩ = some (.int .i64 0) := cell_later hV1 (by go_simp)
 have f0 : v1.frozen? ⟨w.heap.size + 1, 0, none⟩ = false := keepFr hV1 (by simp) (by go_simp)
 have f1 : v1.frozen? ⟨w.heap.size + 1, 1, none⟩ = false := keepFr hV1 (by simp) (by go_simp)
 clear hV1
 go_wp2_with fail
 refine (F _).out.mono ?_
 rintro ee w1 ⟨rfl, hB1⟩
 have z1 : w.heap.size + 1 < w1.heap.size := by have := hB1.size; omega
 have b1 : Below w.heap.size w w1 := bv1.trans (hB1.mono (by omega))
 have c0 : w1.cell? ⟨w.heap.size + 1, 0, none⟩ = some (.int .i64 0) := cell_later hB1 c0
 have c1 : w1.cell? ⟨w.heap.size + 1, 1, none⟩ = some (.int .i64 0) := cell_later hB1 c1
 have f0 : w1.frozen? ⟨w.heap.size + 1, 0, none⟩ = false := keepFr hB1 zv1 f0
 have f1 : w1.frozen? ⟨w.heap.size + 1, 1, none⟩ = false := keepFr hB1 zv1 f1
 clear hB1
 go_wp2
 refine bodyPost_ret (v := .agg #[.int .i64 x, .int .i64 y]) (by simp [results, Try.results44, go_sem, c0, c1, z1]) rfl ⟨rfl, ?_⟩
 exact ((b1.setCell (by simp) _).setCell (by simp) _).alloc (by simp [World.setCell]; omega) _
theorem pinto_1c (p q r s x y e : Int) (w : World)  (F : ∀ w, Hid (Calls Try.prog 11 #[.int .i64 1] w fun e' w' => e' = .returned (.tuple #[.agg #[.int .i64 x, .int .i64 y], .int .i64 e]) ∧ Below w.heap.size w w')) (V1 : ∀ w, Hid (Calls Try.prog 70 #[.agg #[.int .i64 p, .int .u64 q]] w fun e w' => e = .returned (.bool true) ∧ Below w.heap.size w w')) (V2 : ∀ w, Hid (Calls Try.prog 70 #[.agg #[.int .i64 r, .int .u64 s]] w fun e w' => e = .returned (.bool false) ∧ Below w.heap.size w w')) :
   Calls Try.prog 44 #[.agg #[.int .i64 p, .int .u64 q, .int .i64 r, .int .u64 s], .int .i64 1] w (IntoOut x y w) := by
 go_enter Try.func44, Try.ntmps44
 go_wp2_with fail
 go_region
 go_wp2_with fail
 refine (V1 _).out.mono ?_
 rintro ev1 v1 ⟨rfl, hV1⟩
 have zv1 : w.heap.size + 1 < v1.heap.size := by have := hV1.size; simp at this; omega
 have zw1 : w.heap.size < v1.heap.size := by omega
 have bv1 : Below w.heap.size w v1 := ((((Below.refl _ _).alloc (Nat.le_refl _) _).alloc (by simp) _).drew).trans (hV1.mono (by simp; try omega))
 have i0 : v1.cell? ⟨w.heap.size, 0, none⟩ = some (.int .i64 p) := cell_later hV1 (by go_simp)
 have i1 : v1.cell? ⟨w.heap.size, 1, none⟩ = some (.int .u64 q) := cell_later hV1 (by go_simp)
 have i2 : v1.cell? ⟨w.heap.size, 2, none⟩ = some (.int .i64 r) := cell_later hV1 (by go_simp)
 have i3 : v1.cell? ⟨w.heap.size, 3, none⟩ = some (.int .u64 s) := cell_later hV1 (by go_simp)
 have c0 : v1.cell? ⟨w.heap.size + 1, 0, none⟩ = some (.int .i64 0) := cell_later hV1 (by go_simp)
 have c1 : v1.cell? ⟨w.heap.size + 1, 1, none⟩ = some (.int .i64 0) := cell_later hV1 (by go_simp)
 have f0 : v1.frozen? ⟨w.heap.size + 1, 0, none⟩ = false := keepFr hV1 (by simp) (by go_simp)
 have f1 : v1.frozen? ⟨w.heap.size + 1, 1, none⟩ = false := keepFr hV1 (by simp) (by go_simp)
 clear hV1
 go_wp2_with fail
 refine (V2 _).out.mono ?_
 rintro ev2 v2 ⟨rfl, hV2⟩
 have zv2 : w.heap.size + 1 < v2.heap.size := by have := hV2.size; omega
 have zw2 : w.heap.size < v2.heap.size := by omega
 have bv2 : Below w.heap.size w v2 := bv1.trans (hV2.mono (by omega))
 have i0 : v2.cell? ⟨w.heap.size, 0, none⟩ = some (.int .i64 p) := cell_later hV2 i0
 have i1 : v2.cell? ⟨w.heap.size, 1, none⟩ = some (.int .u64 q) := cell_later hV2 i1
 have i2 : v2.cell? ⟨w.heap.size, 2, none⟩ = some (.int .i64 r) := cell_later hV2 i2
 have i3 : v2.cell? ⟨w.heap.size, 3, none⟩ = some (.int .u64 s) := cell_later hV2 i3
 have c0 : v2.cell? ⟨w.heap.size + 1, 0, none⟩ = some (.int .i64 0) := cell_later hV2 c0
 have c1 : v2.cell? ⟨w.heap.size + 1, 1, none⟩ = some (.int .i64 0) := cell_later hV2 c1
 have f0 : v2.frozen? ⟨w.heap.size + 1, 0, none⟩ = false := keepFr hV2 zv1 f0
 have f1 : v2.frozen? ⟨w.heap.size + 1, 1, none⟩ = false := keepFr hV2 zv1 f1
 clear hV2
 go_wp2_with fail
 refine (F _).out.mono ?_
 rintro ee w1 ⟨rfl, hB1⟩
 have z1 : w.heap.size + 1 < w1.heap.size := by have := hB1.size; omega
 have b1 : Below w.heap.size w w1 := bv2.trans (hB1.mono (by omega))
 have c0 : w1.cell? ⟨w.heap.size + 1, 0, none⟩ = some (.int .i64 0) := cell_later hB1 c0
 have c1 : w1.cell? ⟨w.heap.size + 1, 1, none⟩ = some (.int .i64 0) := cell_later hB1 c1
 have f0 : w1.frozen? ⟨w.heap.size + 1, 0, none⟩ = false := keepFr hB1 zv2 f0
 have f1 : w1.frozen? ⟨w.heap.size + 1, 1, none⟩ = false := keepFr hB1 zv2 f1
 clear hB1
 go_wp2
 refine bodyPost_ret (v := .agg #[.int .i64 x, .int .i64 y]) (by simp [results, Try.results44, go_sem, c0, c1, z1]) rfl ⟨rfl, ?_⟩
 exact ((b1.setCell (by simp) _).setCell (by simp) _).alloc (by simp [World.setCell]; omega) _
theorem pinto_1a (p q r s : Int) (w : World) (V1 : ∀ w, Hid (Calls Try.prog 70 #[.agg #[.int .i64 p, .int .u64 q]] w fun e w' => e = .returned (.bool true) ∧ Below w.heap.size w w')) (V2 : ∀ w, Hid (Calls Try.prog 70 #[.agg #[.int .i64 r, .int .u64 s]] w fun e w' => e = .returned (.bool true) ∧ Below w.heap.size w w')) :
   Calls Try.prog 44 #[.agg #[.int .i64 p, .int .u64 q, .int .i64 r, .int .u64 s], .int .i64 1] w (IntoOut (wrap64 q) (wrap64 s) w) := by
 go_enter Try.func44, Try.ntmps44
 go_wp2_with fail
 go_region
 go_wp2_with fail
 refine (V1 _).out.mono ?_
 rintro ev1 v1 ⟨rfl, hV1⟩
 have zv1 : w.heap.size + 1 < v1.heap.size := by have := hV1.size; simp at this; omega
 have zw1 : w.heap.size < v1.heap.size := by omega
 have bv1 : Below w.heap.size w v1 := ((((Below.refl _ _).alloc (Nat.le_refl _) _).alloc (by simp) _).drew).trans (hV1.mono (by simp; try omega))
 have i0 : v1.cell? ⟨w.heap.size, 0, none⟩ = some (.int .i64 p) := cell_later hV1 (by go_simp)
 have i1 : v1.cell? ⟨w.heap.size, 1, none⟩ = some (.int .u64 q) := cell_later hV1 (by go_simp)
 have i2 : v1.cell? ⟨w.heap.size, 2, none⟩ = some (.int .i64 r) := cell_later hV1 (by go_simp)
 have i3 : v1.cell? ⟨w.heap.size, 3, none⟩ = some (.int .u64 s) := cell_later hV1 (by go_simp)
 have c0 : v1.cell? ⟨w.heap.size + 1, 0, none⟩ = some (.int .i64 0) := cell_later hV1 (by go_simp)
 have c1 : v1.cell? ⟨w.heap.size + 1, 1, none⟩ = some (.int .i64 0) := cell_later hV1 (by go_simp)
 have f0 : v1.frozen? ⟨w.heap.size + 1, 0, none⟩ = false := keepFr hV1 (by simp) (by go_simp)
 have f1 : v1.frozen? ⟨w.heap.size + 1, 1, none⟩ = false := keepFr hV1 (by simp) (by go_simp)
 clear hV1
 go_wp2_with fail
 refine (V2 _).out.mono ?_
 rintro ev2 v2 ⟨rfl, hV2⟩
 have zv2 : w.heap.size + 1 < v2.heap.size := by have := hV2.size; omega
 have zw2 : w.heap.size < v2.heap.size := by omega
 have bv2 : Below w.heap.size w v2 := bv1.trans (hV2.mono (by omega))
 have i0 : v2.cell? ⟨w.heap.size, 0, none⟩ = some (.int .i64 p) := cell_later hV2 i0
 have i1 : v2.cell? ⟨w.heap.size, 1, none⟩ = some (.int .u64 q) := cell_later hV2 i1
 have i2 : v2.cell? ⟨w.heap.size, 2, none⟩ = some (.int .i64 r) := cell_later hV2 i2
 have i3 : v2.cell? ⟨w.heap.size, 3, none⟩ = some (.int .u64 s) := cell_later hV2 i3
 have c0 : v2.cell? ⟨w.heap.size + 1, 0, none⟩ = some (.int .i64 0) := cell_later hV2 c0
 have c1 : v2.cell? ⟨w.heap.size + 1, 1, none⟩ = some (.int .i64 0) := cell_later hV2 c1
 have f0 : v2.frozen? ⟨w.heap.size + 1, 0, none⟩ = false := keepFr hV2 zv1 f0
 have f1 : v2.frozen? ⟨w.heap.size + 1, 1, none⟩ = false := keepFr hV2 zv1 f1
 clear hV2
 go_wp2
 refine bodyPost_ret (v := .agg #[.int .i64 (wrap64 q), .int .i64 (wrap64 s)]) (by simp [results, Try.results44, go_sem, c0, c1]) rfl ⟨rfl, ?_⟩
 exact bv2.setCell (by simp) _ |>.setCell (by simp) _
end Go.Proofs.Ytgkhldbnljdeiaa
