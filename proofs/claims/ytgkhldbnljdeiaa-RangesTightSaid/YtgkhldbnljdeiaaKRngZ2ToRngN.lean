/- RngZ2, RngC, RngD, RngM, RngN. -/
import Derived.Test.YtgkhldbnljdeiaaKRngXToRngZ1
import Derived.Test.YtgkhldbnljdeiaaKLawPickedToRngK
import Derived.Test.YtgkhldbnljdeiaaKRefLToRngB
import Derived.MapKept
import Derived.Carry
set_option linter.unusedSimpArgs false
set_option linter.unusedVariables false
/- The contract of into of layer 4. -/
namespace Go.Proofs.Ytgkhldbnljdeiaa
open Go.RowKit
attribute [local go_sem] World.setCell_self

def IntoOut (x y : Int) (w : World) (e : Ending) (w' : World) : Prop := e = .returned (.agg #[.int .i64 x, .int .i64 y]) ∧ Below w.heap.size w w'

set_option maxRecDepth 100000 in
set_option maxHeartbeats 2000000 in
theorem pinto_2a (p q s : Int) (w : World) (h : (wrap64 q / 256 == wrap64 s / 256) = true) :
    Calls Try.prog 44 #[.agg #[.int .i64 p, .int .u64 q, .int .i64 p, .int .u64 s], .int .i64 2] w (IntoOut (bits .and .i64 (wrap64 q) 255) (bits .and .i64 (wrap64 s) 255) w) := by
  go_enter Try.func44, Try.ntmps44
  go_wp2_with fail
  go_region
  go_wp2
  refine bodyPost_ret (v := .agg #[.int .i64 (bits .and .i64 (wrap64 q) 255), .int .i64 (bits .and .i64 (wrap64 s) 255)]) (by simp [results, Try.results44, go_sem]) rfl ⟨rfl, ?_⟩
  exact (((Below.refl _ _).alloc (Nat.le_refl _) _).alloc (by simp) _).drew

set_option maxRecDepth 100000 in
set_option maxHeartbeats 2000000 in
theorem pinto_2b (p q r s x y e : Int) (w : World) (h : (wrap64 q / 256 == wrap64 s / 256) = false) (F : ∀ w, Hid (Calls Try.prog 11 #[.int .i64 2] w fun e' w' => e' = .returned (.tuple #[.agg #[.int .i64 x, .int .i64 y], .int .i64 e]) ∧ Below w.heap.size w w')) :
    Calls Try.prog 44 #[.agg #[.int .i64 p, .int .u64 q, .int .i64 p, .int .u64 s], .int .i64 2] w (IntoOut x y w) := by
  go_enter Try.func44, Try.ntmps44
  go_wp2_with fail
  go_region
  go_wp2_with fail
  refine (F _).out.mono ?_
  rintro ee w1 ⟨rfl, hB1⟩
  have z1 : w.heap.size + 1 < w1.heap.size := by have := hB1.size; simp at this; omega
  have b1 : Below w.heap.size w w1 := ((((Below.refl _ _).alloc (Nat.le_refl _) _).alloc (by simp) _).drew).trans (hB1.mono (by simp; try omega))
  have c0 : w1.cell? ⟨w.heap.size + 1, 0, none⟩ = some (.int .i64 0) := cell_later hB1 (by go_simp)
  have c1 : w1.cell? ⟨w.heap.size + 1, 1, none⟩ = some (.int .i64 0) := cell_later hB1 (by go_simp)
  have f0 : w1.frozen? ⟨w.heap.size + 1, 0, none⟩ = false := keepFr hB1 (by simp) (by go_simp)
  have f1 : w1.frozen? ⟨w.heap.size + 1, 1, none⟩ = false := keepFr hB1 (by simp) (by go_simp)
  clear hB1
  go_wp2
  refine bodyPost_ret (v := .agg #[.int .i64 x, .int .i64 y]) (by simp [results, Try.results44, go_sem, c0, c1, z1]) rfl ⟨rfl, ?_⟩
  exact ((b1.setCell (by simp) _).setCell (by simp) _).alloc (by simp [World.setCell]; omega) _

set_option maxRecDepth 100000 in
set_option maxHeartbeats 2000000 in
theorem pinto_2c (p q r s x y e : Int) (w : World) (h : (p == r) = false) (F : ∀ w, Hid (Calls Try.prog 11 #[.int .i64 2] w fun e' w' => e' = .returned (.tuple #[.agg #[.int .i64 x, .int .i64 y], .int .i64 e]) ∧ Below w.heap.size w w')) :
    Calls Try.prog 44 #[.agg #[.int .i64 p, .int .u64 q, .int .i64 r, .int .u64 s], .int .i64 2] w (IntoOut x y w) := by
  go_enter Try.func44, Try.ntmps44
  go_wp2_with fail
  go_region
  go_wp2_with fail
  refine (F _).out.mono ?_
  rintro ee w1 ⟨rfl, hB1⟩
  have z1 : w.heap.size + 1 < w1.heap.size := by have := hB1.size; simp at this; omega
  have b1 : Below w.heap.size w w1 := ((((Below.refl _ _).alloc (Nat.le_refl _) _).alloc (by simp) _).drew).trans (hB1.mono (by simp; try omega))
  have c0 : w1.cell? ⟨w.heap.size + 1, 0, none⟩ = some (.int .i64 0) := cell_later hB1 (by go_simp)
  have c1 : w1.cell? ⟨w.heap.size + 1, 1, none⟩ = some (.int .i64 0) := cell_later hB1 (by go_simp)
  have f0 : w1.frozen? ⟨w.heap.size + 1, 0, none⟩ = false := keepFr hB1 (by simp) (by go_simp)
  have f1 : w1.frozen? ⟨w.heap.size + 1, 1, none⟩ = false := keepFr hB1 (by simp) (by go_simp)
  clear hB1
  go_wp2
  refine bodyPost_ret (v := .agg #[.int .i64 x, .int .i64 y]) (by simp [results, Try.results44, go_sem, c0, c1, z1]) rfl ⟨rfl, ?_⟩
  exact ((b1.setCell (by simp) _).setCell (by simp) _).alloc (by simp [World.setCell]; omega) _

set_option maxRecDepth 100000 in
set_option maxHeartbeats 2000000 in
theorem pinto_1b (p q r s x y e : Int) (w : World)  (F : ∀ w, Hid (Calls Try.prog 11 #[.int .i64 1] w fun e' w' => e' = .returned (.tuple #[.agg #[.int .i64 x, .int .i64 y], .int .i64 e]) ∧ Below w.heap.size w w')) (V1 : ∀ w, Hid (Calls Try.prog 70 #[.agg #[.int .i64 p, .int .u64 q]] w fun e w' => e = .returned (.bool false) ∧ Below w.heap.size w w')) :
    Calls Try.prog 44 #[.agg #[.int .i64 p, .int .u64 q, .int .i64 r, .int .u64 s], .int .i64 1] w (IntoOut x y w) := by
  go_enter Try.func44, Try.ntmps44
  go_wp2_with fail
  go_region
  go_wp2_with fail
  refine (V1 _).out.mono ?_
  rintro ev1 v1 ⟨rfl, hV1⟩
  have zv1 : w.heap.size + 1 < v1.heap.size := by have := hV1.size; simp at this; omega
  have zw1 : w.heap.size < v1.heap.size := by omega
  have bv1 : Below w.heap.size w v1 := ((((Below.refl _ _).alloc (Nat.le_refl _) _).alloc (by simp) _).drew).trans (hV1.mono (by simp; try omega))
  have i0 : v1.cell? ⟨w.heap.size, 0, none⟩ = some (.int .i64 p) := cell_later hV1 (by go_simp)
  have i1 : v1.cell? ⟨w.heap.size, 1, none⟩ = some (.int .u64 q) := cell_later hV1 (by go_simp)
  have i2 : v1.cell? ⟨w.heap.size, 2, none⟩ = some (.int .i64 r) := cell_later hV1 (by go_simp)
  have i3 : v1.cell? ⟨w.heap.size, 3, none⟩ = some (.int .u64 s) := cell_later hV1 (by go_simp)
  have c0 : v1.cell? ⟨w.heap.size + 1, 0, none⟩ = some (.int .i64 0) := cell_later hV1 (by go_simp)
  have c1 : v1.cell? ⟨w.heap.size + 1, 1, none⟩ = some (.int .i64 0) := cell_later hV1 (by go_simp)
  have f0 : v1.frozen? ⟨w.heap.size + 1, 0, none⟩ = false := keepFr hV1 (by simp) (by go_simp)
  have f1 : v1.frozen? ⟨w.heap.size + 1, 1, none⟩ = false := keepFr hV1 (by simp) (by go_simp)
  clear hV1
  go_wp2_with fail
  refine (F _).out.mono ?_
  rintro ee w1 ⟨rfl, hB1⟩
  have z1 : w.heap.size + 1 < w1.heap.size := by have := hB1.size; omega
  have b1 : Below w.heap.size w w1 := bv1.trans (hB1.mono (by omega))
  have c0 : w1.cell? ⟨w.heap.size + 1, 0, none⟩ = some (.int .i64 0) := cell_later hB1 c0
  have c1 : w1.cell? ⟨w.heap.size + 1, 1, none⟩ = some (.int .i64 0) := cell_later hB1 c1
  have f0 : w1.frozen? ⟨w.heap.size + 1, 0, none⟩ = false := keepFr hB1 zv1 f0
  have f1 : w1.frozen? ⟨w.heap.size + 1, 1, none⟩ = false := keepFr hB1 zv1 f1
  clear hB1
  go_wp2
  refine bodyPost_ret (v := .agg #[.int .i64 x, .int .i64 y]) (by simp [results, Try.results44, go_sem, c0, c1, z1]) rfl ⟨rfl, ?_⟩
  exact ((b1.setCell (by simp) _).setCell (by simp) _).alloc (by simp [World.setCell]; omega) _

set_option maxRecDepth 100000 in
set_option maxHeartbeats 2000000 in
theorem pinto_1c (p q r s x y e : Int) (w : World)  (F : ∀ w, Hid (Calls Try.prog 11 #[.int .i64 1] w fun e' w' => e' = .returned (.tuple #[.agg #[.int .i64 x, .int .i64 y], .int .i64 e]) ∧ Below w.heap.size w w')) (V1 : ∀ w, Hid (Calls Try.prog 70 #[.agg #[.int .i64 p, .int .u64 q]] w fun e w' => e = .returned (.bool true) ∧ Below w.heap.size w w')) (V2 : ∀ w, Hid (Calls Try.prog 70 #[.agg #[.int .i64 r, .int .u64 s]] w fun e w' => e = .returned (.bool false) ∧ Below w.heap.size w w')) :
    Calls Try.prog 44 #[.agg #[.int .i64 p, .int .u64 q, .int .i64 r, .int .u64 s], .int .i64 1] w (IntoOut x y w) := by
  go_enter Try.func44, Try.ntmps44
  go_wp2_with fail
  go_region
  go_wp2_with fail
  refine (V1 _).out.mono ?_
  rintro ev1 v1 ⟨rfl, hV1⟩
  have zv1 : w.heap.size + 1 < v1.heap.size := by have := hV1.size; simp at this; omega
  have zw1 : w.heap.size < v1.heap.size := by omega
  have bv1 : Below w.heap.size w v1 := ((((Below.refl _ _).alloc (Nat.le_refl _) _).alloc (by simp) _).drew).trans (hV1.mono (by simp; try omega))
  have i0 : v1.cell? ⟨w.heap.size, 0, none⟩ = some (.int .i64 p) := cell_later hV1 (by go_simp)
  have i1 : v1.cell? ⟨w.heap.size, 1, none⟩ = some (.int .u64 q) := cell_later hV1 (by go_simp)
  have i2 : v1.cell? ⟨w.heap.size, 2, none⟩ = some (.int .i64 r) := cell_later hV1 (by go_simp)
  have i3 : v1.cell? ⟨w.heap.size, 3, none⟩ = some (.int .u64 s) := cell_later hV1 (by go_simp)
  have c0 : v1.cell? ⟨w.heap.size + 1, 0, none⟩ = some (.int .i64 0) := cell_later hV1 (by go_simp)
  have c1 : v1.cell? ⟨w.heap.size + 1, 1, none⟩ = some (.int .i64 0) := cell_later hV1 (by go_simp)
  have f0 : v1.frozen? ⟨w.heap.size + 1, 0, none⟩ = false := keepFr hV1 (by simp) (by go_simp)
  have f1 : v1.frozen? ⟨w.heap.size + 1, 1, none⟩ = false := keepFr hV1 (by simp) (by go_simp)
  clear hV1
  go_wp2_with fail
  refine (V2 _).out.mono ?_
  rintro ev2 v2 ⟨rfl, hV2⟩
  have zv2 : w.heap.size + 1 < v2.heap.size := by have := hV2.size; omega
  have zw2 : w.heap.size < v2.heap.size := by omega
  have bv2 : Below w.heap.size w v2 := bv1.trans (hV2.mono (by omega))
  have i0 : v2.cell? ⟨w.heap.size, 0, none⟩ = some (.int .i64 p) := cell_later hV2 i0
  have i1 : v2.cell? ⟨w.heap.size, 1, none⟩ = some (.int .u64 q) := cell_later hV2 i1
  have i2 : v2.cell? ⟨w.heap.size, 2, none⟩ = some (.int .i64 r) := cell_later hV2 i2
  have i3 : v2.cell? ⟨w.heap.size, 3, none⟩ = some (.int .u64 s) := cell_later hV2 i3
  have c0 : v2.cell? ⟨w.heap.size + 1, 0, none⟩ = some (.int .i64 0) := cell_later hV2 c0
  have c1 : v2.cell? ⟨w.heap.size + 1, 1, none⟩ = some (.int .i64 0) := cell_later hV2 c1
  have f0 : v2.frozen? ⟨w.heap.size + 1, 0, none⟩ = false := keepFr hV2 zv1 f0
  have f1 : v2.frozen? ⟨w.heap.size + 1, 1, none⟩ = false := keepFr hV2 zv1 f1
  clear hV2
  go_wp2_with fail
  refine (F _).out.mono ?_
  rintro ee w1 ⟨rfl, hB1⟩
  have z1 : w.heap.size + 1 < w1.heap.size := by have := hB1.size; omega
  have b1 : Below w.heap.size w w1 := bv2.trans (hB1.mono (by omega))
  have c0 : w1.cell? ⟨w.heap.size + 1, 0, none⟩ = some (.int .i64 0) := cell_later hB1 c0
  have c1 : w1.cell? ⟨w.heap.size + 1, 1, none⟩ = some (.int .i64 0) := cell_later hB1 c1
  have f0 : w1.frozen? ⟨w.heap.size + 1, 0, none⟩ = false := keepFr hB1 zv2 f0
  have f1 : w1.frozen? ⟨w.heap.size + 1, 1, none⟩ = false := keepFr hB1 zv2 f1
  clear hB1
  go_wp2
  refine bodyPost_ret (v := .agg #[.int .i64 x, .int .i64 y]) (by simp [results, Try.results44, go_sem, c0, c1, z1]) rfl ⟨rfl, ?_⟩
  exact ((b1.setCell (by simp) _).setCell (by simp) _).alloc (by simp [World.setCell]; omega) _

set_option maxRecDepth 100000 in
set_option maxHeartbeats 2000000 in
theorem pinto_1a (p q r s : Int) (w : World) (V1 : ∀ w, Hid (Calls Try.prog 70 #[.agg #[.int .i64 p, .int .u64 q]] w fun e w' => e = .returned (.bool true) ∧ Below w.heap.size w w')) (V2 : ∀ w, Hid (Calls Try.prog 70 #[.agg #[.int .i64 r, .int .u64 s]] w fun e w' => e = .returned (.bool true) ∧ Below w.heap.size w w')) :
    Calls Try.prog 44 #[.agg #[.int .i64 p, .int .u64 q, .int .i64 r, .int .u64 s], .int .i64 1] w (IntoOut (wrap64 q) (wrap64 s) w) := by
  go_enter Try.func44, Try.ntmps44
  go_wp2_with fail
  go_region
  go_wp2_with fail
  refine (V1 _).out.mono ?_
  rintro ev1 v1 ⟨rfl, hV1⟩
  have zv1 : w.heap.size + 1 < v1.heap.size := by have := hV1.size; simp at this; omega
  have zw1 : w.heap.size < v1.heap.size := by omega
  have bv1 : Below w.heap.size w v1 := ((((Below.refl _ _).alloc (Nat.le_refl _) _).alloc (by simp) _).drew).trans (hV1.mono (by simp; try omega))
  have i0 : v1.cell? ⟨w.heap.size, 0, none⟩ = some (.int .i64 p) := cell_later hV1 (by go_simp)
  have i1 : v1.cell? ⟨w.heap.size, 1, none⟩ = some (.int .u64 q) := cell_later hV1 (by go_simp)
  have i2 : v1.cell? ⟨w.heap.size, 2, none⟩ = some (.int .i64 r) := cell_later hV1 (by go_simp)
  have i3 : v1.cell? ⟨w.heap.size, 3, none⟩ = some (.int .u64 s) := cell_later hV1 (by go_simp)
  have c0 : v1.cell? ⟨w.heap.size + 1, 0, none⟩ = some (.int .i64 0) := cell_later hV1 (by go_simp)
  have c1 : v1.cell? ⟨w.heap.size + 1, 1, none⟩ = some (.int .i64 0) := cell_later hV1 (by go_simp)
  have f0 : v1.frozen? ⟨w.heap.size + 1, 0, none⟩ = false := keepFr hV1 (by simp) (by go_simp)
  have f1 : v1.frozen? ⟨w.heap.size + 1, 1, none⟩ = false := keepFr hV1 (by simp) (by go_simp)
  clear hV1
  go_wp2_with fail
  refine (V2 _).out.mono ?_
  rintro ev2 v2 ⟨rfl, hV2⟩
  have zv2 : w.heap.size + 1 < v2.heap.size := by have := hV2.size; omega
  have zw2 : w.heap.size < v2.heap.size := by omega
  have bv2 : Below w.heap.size w v2 := bv1.trans (hV2.mono (by omega))
  have i0 : v2.cell? ⟨w.heap.size, 0, none⟩ = some (.int .i64 p) := cell_later hV2 i0
  have i1 : v2.cell? ⟨w.heap.size, 1, none⟩ = some (.int .u64 q) := cell_later hV2 i1
  have i2 : v2.cell? ⟨w.heap.size, 2, none⟩ = some (.int .i64 r) := cell_later hV2 i2
  have i3 : v2.cell? ⟨w.heap.size, 3, none⟩ = some (.int .u64 s) := cell_later hV2 i3
  have c0 : v2.cell? ⟨w.heap.size + 1, 0, none⟩ = some (.int .i64 0) := cell_later hV2 c0
  have c1 : v2.cell? ⟨w.heap.size + 1, 1, none⟩ = some (.int .i64 0) := cell_later hV2 c1
  have f0 : v2.frozen? ⟨w.heap.size + 1, 0, none⟩ = false := keepFr hV2 zv1 f0
  have f1 : v2.frozen? ⟨w.heap.size + 1, 1, none⟩ = false := keepFr hV2 zv1 f1
  clear hV2
  go_wp2
  refine bodyPost_ret (v := .agg #[.int .i64 (wrap64 q), .int .i64 (wrap64 s)]) (by simp [results, Try.results44, go_sem, c0, c1]) rfl ⟨rfl, ?_⟩
  exact bv2.setCell (by simp) _ |>.setCell (by simp) _

end Go.Proofs.Ytgkhldbnljdeiaa

/- The contracts of the program's functions Join and Meet of layer 4, for all arguments. -/
namespace Go.Proofs.Ytgkhldbnljdeiaa
open Go.RowKit RangesMath
attribute [local go_sem] World.setCell_self

def okB (k a b : Int) : Bool := decide (checkErr k a b = 0)
theorem okB_ne (k a b : Int) : (checkErr k a b != 0) = !okB k a b := by
  unfold okB
  by_cases h : checkErr k a b = 0 <;> simp [h]
/-- areRanges of one range, or two, wherever they lie. -/
def Are1 (k a b : Int) (q : Bool) : Prop := ∀ (g cap : Nat) (w : World), g < w.heap.size → 1 ≤ cap → Cell2 w g 0 a b → Calls Try.prog 31 #[.int .i64 k, .slice (some ⟨g, 0, none⟩) 1 cap] w fun e w' => e = .returned (.bool q) ∧ Below w.heap.size w w'
def Are2 (k a b c d : Int) (q : Bool) : Prop := ∀ (g cap : Nat) (w : World), g < w.heap.size → 2 ≤ cap → Cell2 w g 0 a b → Cell2 w g 2 c d → Calls Try.prog 31 #[.int .i64 k, .slice (some ⟨g, 0, none⟩) 2 cap] w fun e w' => e = .returned (.bool q) ∧ Below w.heap.size w w'
theorem are1_any (k a b : Int) : Are1 k a b (okB k a b) := fun g cap w hg hcap H => pare1 k a b _ g cap w hg hcap (fun w => Lib.hid (pcheck_any k a b w)) _ (okB_ne k a b) (Lib.hid H)
theorem are2_any (k a b c d : Int) : Are2 k a b c d (okB k a b && okB k c d) := fun g cap w hg hcap H H2 => pare2 k a b c d _ _ g cap w hg hcap (fun w => Lib.hid (pcheck_any k a b w)) (fun w => Lib.hid (pcheck_any k c d w)) _ _ (okB_ne k a b) (okB_ne k c d) (Lib.hid H) (Lib.hid H2)

set_option maxRecDepth 100000 in
set_option maxHeartbeats 2000000 in
theorem pjoin_no (a b c d : Int) (w : World) (A : Are2 1 a b c d false) :
    Calls Try.prog 15 #[.agg #[.int .i64 a, .int .i64 b], .agg #[.int .i64 c, .int .i64 d]] w fun e w' => e = .returned (.tuple #[.agg #[.int .i64 0, .int .i64 0], .int .i64 2]) ∧ Below w.heap.size w w' := by
  have A := Lib.hid A
  go_enter Try.func15, Try.ntmps15
  go_wp2_with (go_at_call 31; refine (A.out _ _ _ (by simp) (by omega) ⟨by go_simp, by go_simp⟩ ⟨by go_simp, by go_simp⟩).mono ?_; rintro e w' ⟨rfl, hb⟩; obtain ⟨hc, hf⟩ := bcell hb; have hz : w.heap.size + 1 + 1 < w'.heap.size := by have := hb.size; simp at this; omega)
  refine bodyPost_ret (v := .tuple #[.agg #[.int .i64 0, .int .i64 0], .int .i64 2]) (by simp [results, Try.results15, go_sem, hc, hz]) rfl ⟨rfl, ?_⟩
  exact ((((Below.refl _ _).alloc (Nat.le_refl _) _).alloc (by simp) _).alloc (by simp; omega) _).alloc (by simp; omega) _ |>.trans (hb.mono (by simp; omega))

set_option maxRecDepth 100000 in
set_option maxHeartbeats 2000000 in
theorem pjoin_yes (a b c d : Int) (w : World) (A : Are2 1 a b c d true) :
    Calls Try.prog 15 #[.agg #[.int .i64 a, .int .i64 b], .agg #[.int .i64 c, .int .i64 d]] w fun e w' => e = .returned (.tuple #[.agg #[.int .i64 (min a c), .int .i64 (max b d)], .int .i64 0]) ∧ Below w.heap.size w w' := by
  have A := Lib.hid A
  go_enter Try.func15, Try.ntmps15
  go_wp2_with (go_at_call 31; refine (A.out _ _ _ (by simp) (by omega) ⟨by go_simp, by go_simp⟩ ⟨by go_simp, by go_simp⟩).mono ?_; rintro e w' ⟨rfl, hb⟩; obtain ⟨hc, hf⟩ := bcell hb; have hz : w.heap.size + 1 + 1 < w'.heap.size := by have := hb.size; simp at this; omega)
  all_goals
    refine bodyPost_ret (v := .tuple #[.agg #[.int .i64 (min a c), .int .i64 (max b d)], .int .i64 0]) (by simp [results, Try.results15, go_sem, hc, hz]; omega) rfl ⟨rfl, ?_⟩
    exact ((((((Below.refl _ _).alloc (Nat.le_refl _) _).alloc (by simp) _).alloc (by simp; omega) _).alloc (by simp; omega) _).trans (hb.mono (by simp; omega))).setCell (by simp; try omega) _ |>.setCell (by simp; try omega) _

end Go.Proofs.Ytgkhldbnljdeiaa

/- The contracts of the program's functions Join and Meet of layer 4, as the statements ask for them. -/
namespace Go.Proofs.Ytgkhldbnljdeiaa
open Go.RowKit RangesMath
attribute [local go_sem] World.setCell_self

set_option maxRecDepth 100000 in
set_option maxHeartbeats 2000000 in
theorem pmeet_bad (a b c d : Int) (w : World) (A : Are2 1 a b c d false) :
    Calls Try.prog 17 #[.agg #[.int .i64 a, .int .i64 b], .agg #[.int .i64 c, .int .i64 d]] w fun e w' => e = .returned (.tuple #[.agg #[.int .i64 0, .int .i64 0], .bool false, .int .i64 2]) ∧ Below w.heap.size w w' := by
  have A := Lib.hid A
  go_enter Try.func17, Try.ntmps17
  go_wp2_with (go_at_call 31; refine (A.out _ _ _ (by simp) (by omega) ⟨by go_simp, by go_simp⟩ ⟨by go_simp, by go_simp⟩).mono ?_; rintro e w' ⟨rfl, hb⟩; obtain ⟨hc, hf⟩ := bcell hb; have hz : w.heap.size + 1 + 1 < w'.heap.size := by have := hb.size; simp at this; omega)
  refine bodyPost_ret (v := .tuple #[.agg #[.int .i64 0, .int .i64 0], .bool false, .int .i64 2]) (by simp [results, Try.results17, go_sem, hc, hz]) rfl ⟨rfl, ?_⟩
  exact ((((Below.refl _ _).alloc (Nat.le_refl _) _).alloc (by simp) _).alloc (by simp; omega) _).alloc (by simp; omega) _ |>.trans (hb.mono (by simp; omega))

set_option maxRecDepth 100000 in
set_option maxHeartbeats 2000000 in
theorem pmeet_ok (a b c d x y : Int) (s : Bool) (w : World) (A : Are2 1 a b c d true) (hC : ∀ w, Hid (Calls Try.prog 32 #[.agg #[.int .i64 a, .int .i64 b], .agg #[.int .i64 c, .int .i64 d]] w fun e w' => e = .returned (.tuple #[.agg #[.int .i64 x, .int .i64 y], .bool s]) ∧ Below w.heap.size w w')) :
    Calls Try.prog 17 #[.agg #[.int .i64 a, .int .i64 b], .agg #[.int .i64 c, .int .i64 d]] w fun e w' => e = .returned (.tuple #[.agg #[.int .i64 x, .int .i64 y], .bool s, .int .i64 0]) ∧ Below w.heap.size w w' := by
  have A := Lib.hid A
  go_enter Try.func17, Try.ntmps17
  go_wp2_with (first
    | (go_at_call 31; refine (A.out _ _ _ (by simp) (by omega) ⟨by go_simp, by go_simp⟩ ⟨by go_simp, by go_simp⟩).mono ?_; rintro e w' ⟨rfl, hb⟩; obtain ⟨hc, hf⟩ := bcell hb; have hz : w.heap.size + 1 + 1 < w'.heap.size := by have := hb.size; simp at this; omega)
    | (go_at_call 32; refine (hC _).out.mono ?_; rintro e2 w2 ⟨rfl, hb2⟩; obtain ⟨hc2, hf2⟩ := bcell hb2; have hz2 : w.heap.size + 1 + 1 < w2.heap.size := by have := hb2.size; omega))
  refine bodyPost_ret (v := .tuple #[.agg #[.int .i64 x, .int .i64 y], .bool s, .int .i64 0]) (by simp [results, Try.results17, go_sem, hc, hz, hc2, hz2]) rfl ⟨rfl, ?_⟩
  exact (((((((Below.refl _ _).alloc (Nat.le_refl _) _).alloc (by simp) _).alloc (by simp; omega) _).alloc (by simp; omega) _ |>.trans (hb.mono (by simp; omega))).trans (hb2.mono (by omega))).setCell (by simp; try omega) _ |>.setCell (by simp; try omega) _) |>.alloc (by simp; try omega) _

theorem okB_int {a b : Int} (ha : In64 a) (hb : In64 b) : okB 1 a b = decide (a ≤ b) := by
  obtain ⟨h1, h2⟩ := ha
  obtain ⟨h3, h4⟩ := hb
  unfold okB checkErr fullErr fullLow fullHigh
  by_cases h : a ≤ b
  · simp [h]; exact ⟨h1, h4⟩
  · simp [h]

theorem pjoin_spec : JoinSpec 15 := by
  intro a b c d ha hb hc hd w
  have A := are2_any 1 a b c d
  rw [okB_int ha hb, okB_int hc hd] at A
  unfold joinS
  by_cases h : b < a ∨ d < c
  · rw [if_pos h]
    refine pjoin_no a b c d w ?_
    have e : (decide (a ≤ b) && decide (c ≤ d)) = false := by
      rcases h with h | h
      · simp [show ¬ a ≤ b by omega]
      · simp [show ¬ c ≤ d by omega]
    rw [e] at A
    exact A
  · rw [if_neg h]
    refine pjoin_yes a b c d w ?_
    have e : (decide (a ≤ b) && decide (c ≤ d)) = true := by simp; omega
    rw [e] at A
    exact A

theorem pmeet_spec : MeetSpec 17 := by
  intro a b c d ha hb hc hd w
  have A := are2_any 1 a b c d
  rw [okB_int ha hb, okB_int hc hd] at A
  unfold meetS
  by_cases h : b < a ∨ d < c
  · rw [if_pos h]
    refine pmeet_bad a b c d w ?_
    have e : (decide (a ≤ b) && decide (c ≤ d)) = false := by
      rcases h with h | h
      · simp [show ¬ a ≤ b by omega]
      · simp [show ¬ c ≤ d by omega]
    rw [e] at A
    exact A
  · rw [if_neg h]
    have e : (decide (a ≤ b) && decide (c ≤ d)) = true := by simp; omega
    rw [e] at A
    have R := pmeet_ok a b c d _ _ _ w A (fun w => Lib.hid (pcommon_any a b c d w))
    unfold comS at R
    by_cases hm : max a c ≤ min b d
    · rw [if_pos hm] at R ⊢; exact R
    · rw [if_neg hm] at R ⊢; exact R

end Go.Proofs.Ytgkhldbnljdeiaa

/- Laws on maps that a call makes with int keys, written out. -/
namespace Go.Proofs.Ytgkhldbnljdeiaa
open Go.RowKit Go.MapKept

theorem run_put {P : Program} {W : World} {T K E b c : Nat} {es : Array MapEntry} {k : Int} {v : Value} (hT : P.underlying T = some (.map K E)) (hK : P.underlying K = some (.int .i64)) (hb : W.heap.size = b) (hn : Instr.findNow (.int .i64) (.int .i64 k) es.toList 0 = some none) :
    (Instr.mapUpdate T (.map (some b)) (.int .i64 k) v).run P (W.alloc (.map es c)) = .ok () (W.alloc (.map (es.push ⟨.int .i64 k, v, c⟩) (c + 1))) := by
  subst hb
  have hb := (heap_alloc W (.map es c)).1
  have hw : ∀ o, ({ W.alloc (.map es c) with heap := (W.alloc (.map es c)).heap.setIfInBounds W.heap.size o } : World) = W.alloc o := by
    intro o
    have e : (W.alloc (.map es c)).heap.setIfInBounds W.heap.size o = (W.alloc o).heap := by
      apply Array.ext_getElem?
      intro i
      show (W.heap.push (.map es c) |>.setIfInBounds W.heap.size o)[i]? = (W.heap.push o)[i]?
      rw [Array.getElem?_setIfInBounds, Array.getElem?_push, Array.getElem?_push]
      by_cases h : i = W.heap.size
      · subst h; simp
      · rw [if_neg (fun e => h e.symm), if_neg h, if_neg h]
    rw [e]; rfl
  simp [Instr.mapUpdate, run_underlying hT, Go.MapKept.run_getObj_map hb, run_checkKey hK (show IsKey (.int .i64) (.int .i64 k) from rfl), run_findKey hK hn, run_setObj_map _ hb, Result.andThen]
  exact hw _

theorem run_look {P : Program} {w : World} {T K E b c : Nat} {es : Array MapEntry} {k : Int} {i : Nat} {v : Value} (hT : P.underlying T = some (.map K E)) (hK : P.underlying K = some (.int .i64)) (hb : w.heap[b]? = some (.map es c)) (hn : Instr.findNow (.int .i64) (.int .i64 k) es.toList 0 = some (some (i, v))) (ok : Bool) :
    (Instr.lookup T (.map (some b)) (.int .i64 k) ok).run P w = .ok (if ok then .tuple #[v, .bool true] else v) w := by
  simp [Instr.lookup, run_underlying hT, Go.MapKept.run_getObj_map hb, run_checkKey hK (show IsKey (.int .i64) (.int .i64 k) from rfl), run_findKey hK hn, Result.andThen]

theorem run_look_none {P : Program} {w : World} {T K E b c : Nat} {es : Array MapEntry} {k : Int} {z : Value} (hT : P.underlying T = some (.map K E)) (hK : P.underlying K = some (.int .i64)) (hb : w.heap[b]? = some (.map es c)) (hn : Instr.findNow (.int .i64) (.int .i64 k) es.toList 0 = some none) (hz : (zeroValue E).run P w = .ok z w) (ok : Bool) :
    (Instr.lookup T (.map (some b)) (.int .i64 k) ok).run P w = .ok (if ok then .tuple #[z, .bool false] else z) w := by
  simp [Instr.lookup, run_underlying hT, Go.MapKept.run_getObj_map hb, run_checkKey hK (show IsKey (.int .i64) (.int .i64 k) from rfl), run_findKey hK hn, hz, Result.andThen]

theorem run_look_nil {P : Program} {w : World} {T K E : Nat} {k : Int} {z : Value} (hT : P.underlying T = some (.map K E)) (hK : P.underlying K = some (.int .i64)) (hz : (zeroValue E).run P w = .ok z w) (ok : Bool) :
    (Instr.lookup T (.map none) (.int .i64 k) ok).run P w = .ok (if ok then .tuple #[z, .bool false] else z) w := by
  have hn : Instr.findNow (.int .i64) (.int .i64 k) (#[] : Array MapEntry).toList 0 = some none := rfl
  simp [Instr.lookup, run_underlying hT, run_checkKey hK (show IsKey (.int .i64) (.int .i64 k) from rfl), run_findKey hK hn, hz, Result.andThen]

end Go.Proofs.Ytgkhldbnljdeiaa

/- The contracts of the program's functions of layer 4 that make maps of functions. -/
namespace Go.Proofs.Ytgkhldbnljdeiaa
open Go.RowKit Go.MapKept

/-- A call returns a new map with these entries. -/
def MapOut (es : Array MapEntry) (n : Nat) (w : World) (e : Ending) (w' : World) : Prop := ∃ b, e = .returned (.map (some b)) ∧ w'.heap[b]? = some (.map es n) ∧ w.heap.size ≤ b ∧ b < w'.heap.size ∧ Below w.heap.size w w'

set_option maxRecDepth 100000 in
set_option maxHeartbeats 2000000 in
theorem pcomparisons_1 (w : World) : Calls Try.prog 45 #[.int .i64 1] w (MapOut #[⟨.int .i64 11, .func (.func 71) #[] #[], 0⟩, ⟨.int .i64 12, .func (.func 72) #[] #[], 1⟩, ⟨.int .i64 13, .func (.func 73) #[] #[], 2⟩, ⟨.int .i64 14, .func (.func 75) #[] #[], 3⟩, ⟨.int .i64 15, .func (.func 76) #[] #[], 4⟩, ⟨.int .i64 16, .func (.func 77) #[] #[], 5⟩] 6 w) := by
  have hmm := @run_makeMap Try.prog
  have p0 : ∀ (v0 : Value), (Instr.mapUpdate 85 (.map (some (w.heap.size))) (.int .i64 11) v0).run Try.prog ((w).alloc (.map #[] 0)) = .ok () ((w).alloc (.map #[⟨.int .i64 11, v0, 0⟩] 1)) := fun v0 => run_put Try.underlying85 Try.underlying3 rfl rfl
  have p1 : ∀ (v0 v1 : Value), (Instr.mapUpdate 85 (.map (some (w.heap.size))) (.int .i64 12) v1).run Try.prog ((w).alloc (.map #[⟨.int .i64 11, v0, 0⟩] 1)) = .ok () ((w).alloc (.map #[⟨.int .i64 11, v0, 0⟩, ⟨.int .i64 12, v1, 1⟩] 2)) := fun v0 v1 => run_put Try.underlying85 Try.underlying3 rfl rfl
  have p2 : ∀ (v0 v1 v2 : Value), (Instr.mapUpdate 85 (.map (some (w.heap.size))) (.int .i64 13) v2).run Try.prog ((w).alloc (.map #[⟨.int .i64 11, v0, 0⟩, ⟨.int .i64 12, v1, 1⟩] 2)) = .ok () ((w).alloc (.map #[⟨.int .i64 11, v0, 0⟩, ⟨.int .i64 12, v1, 1⟩, ⟨.int .i64 13, v2, 2⟩] 3)) := fun v0 v1 v2 => run_put Try.underlying85 Try.underlying3 rfl rfl
  have p3 : ∀ (v0 v1 v2 v3 : Value), (Instr.mapUpdate 85 (.map (some (w.heap.size))) (.int .i64 14) v3).run Try.prog ((w).alloc (.map #[⟨.int .i64 11, v0, 0⟩, ⟨.int .i64 12, v1, 1⟩, ⟨.int .i64 13, v2, 2⟩] 3)) = .ok () ((w).alloc (.map #[⟨.int .i64 11, v0, 0⟩, ⟨.int .i64 12, v1, 1⟩, ⟨.int .i64 13, v2, 2⟩, ⟨.int .i64 14, v3, 3⟩] 4)) := fun v0 v1 v2 v3 => run_put Try.underlying85 Try.underlying3 rfl rfl
  have p4 : ∀ (v0 v1 v2 v3 v4 : Value), (Instr.mapUpdate 85 (.map (some (w.heap.size))) (.int .i64 15) v4).run Try.prog ((w).alloc (.map #[⟨.int .i64 11, v0, 0⟩, ⟨.int .i64 12, v1, 1⟩, ⟨.int .i64 13, v2, 2⟩, ⟨.int .i64 14, v3, 3⟩] 4)) = .ok () ((w).alloc (.map #[⟨.int .i64 11, v0, 0⟩, ⟨.int .i64 12, v1, 1⟩, ⟨.int .i64 13, v2, 2⟩, ⟨.int .i64 14, v3, 3⟩, ⟨.int .i64 15, v4, 4⟩] 5)) := fun v0 v1 v2 v3 v4 => run_put Try.underlying85 Try.underlying3 rfl rfl
  have p5 : ∀ (v0 v1 v2 v3 v4 v5 : Value), (Instr.mapUpdate 85 (.map (some (w.heap.size))) (.int .i64 16) v5).run Try.prog ((w).alloc (.map #[⟨.int .i64 11, v0, 0⟩, ⟨.int .i64 12, v1, 1⟩, ⟨.int .i64 13, v2, 2⟩, ⟨.int .i64 14, v3, 3⟩, ⟨.int .i64 15, v4, 4⟩] 5)) = .ok () ((w).alloc (.map #[⟨.int .i64 11, v0, 0⟩, ⟨.int .i64 12, v1, 1⟩, ⟨.int .i64 13, v2, 2⟩, ⟨.int .i64 14, v3, 3⟩, ⟨.int .i64 15, v4, 4⟩, ⟨.int .i64 16, v5, 5⟩] 6)) := fun v0 v1 v2 v3 v4 v5 => run_put Try.underlying85 Try.underlying3 rfl rfl
  go_enter Try.func45, Try.ntmps45
  go_wp2
  go_ret
  exact ⟨w.heap.size, rfl, (by have := (heap_alloc w (.map #[⟨.int .i64 11, .func (.func 71) #[] #[], 0⟩, ⟨.int .i64 12, .func (.func 72) #[] #[], 1⟩, ⟨.int .i64 13, .func (.func 73) #[] #[], 2⟩, ⟨.int .i64 14, .func (.func 75) #[] #[], 3⟩, ⟨.int .i64 15, .func (.func 76) #[] #[], 4⟩, ⟨.int .i64 16, .func (.func 77) #[] #[], 5⟩] 6)).1; simpa using this), by simp, by simp, (Below.refl _ _).alloc (Nat.le_refl _) _⟩

set_option maxRecDepth 100000 in
set_option maxHeartbeats 2000000 in
theorem pcomparisons_2 (w : World) : Calls Try.prog 45 #[.int .i64 2] w (MapOut #[⟨.int .i64 11, .func (.func 71) #[] #[], 0⟩, ⟨.int .i64 12, .func (.func 72) #[] #[], 1⟩, ⟨.int .i64 13, .func (.func 73) #[] #[], 2⟩, ⟨.int .i64 14, .func (.func 75) #[] #[], 3⟩, ⟨.int .i64 15, .func (.func 76) #[] #[], 4⟩, ⟨.int .i64 16, .func (.func 77) #[] #[], 5⟩] 6 w) := by
  have hmm := @run_makeMap Try.prog
  have p0 : ∀ (v0 : Value), (Instr.mapUpdate 85 (.map (some (w.heap.size))) (.int .i64 11) v0).run Try.prog ((w).alloc (.map #[] 0)) = .ok () ((w).alloc (.map #[⟨.int .i64 11, v0, 0⟩] 1)) := fun v0 => run_put Try.underlying85 Try.underlying3 rfl rfl
  have p1 : ∀ (v0 v1 : Value), (Instr.mapUpdate 85 (.map (some (w.heap.size))) (.int .i64 12) v1).run Try.prog ((w).alloc (.map #[⟨.int .i64 11, v0, 0⟩] 1)) = .ok () ((w).alloc (.map #[⟨.int .i64 11, v0, 0⟩, ⟨.int .i64 12, v1, 1⟩] 2)) := fun v0 v1 => run_put Try.underlying85 Try.underlying3 rfl rfl
  have p2 : ∀ (v0 v1 v2 : Value), (Instr.mapUpdate 85 (.map (some (w.heap.size))) (.int .i64 13) v2).run Try.prog ((w).alloc (.map #[⟨.int .i64 11, v0, 0⟩, ⟨.int .i64 12, v1, 1⟩] 2)) = .ok () ((w).alloc (.map #[⟨.int .i64 11, v0, 0⟩, ⟨.int .i64 12, v1, 1⟩, ⟨.int .i64 13, v2, 2⟩] 3)) := fun v0 v1 v2 => run_put Try.underlying85 Try.underlying3 rfl rfl
  have p3 : ∀ (v0 v1 v2 v3 : Value), (Instr.mapUpdate 85 (.map (some (w.heap.size))) (.int .i64 14) v3).run Try.prog ((w).alloc (.map #[⟨.int .i64 11, v0, 0⟩, ⟨.int .i64 12, v1, 1⟩, ⟨.int .i64 13, v2, 2⟩] 3)) = .ok () ((w).alloc (.map #[⟨.int .i64 11, v0, 0⟩, ⟨.int .i64 12, v1, 1⟩, ⟨.int .i64 13, v2, 2⟩, ⟨.int .i64 14, v3, 3⟩] 4)) := fun v0 v1 v2 v3 => run_put Try.underlying85 Try.underlying3 rfl rfl
  have p4 : ∀ (v0 v1 v2 v3 v4 : Value), (Instr.mapUpdate 85 (.map (some (w.heap.size))) (.int .i64 15) v4).run Try.prog ((w).alloc (.map #[⟨.int .i64 11, v0, 0⟩, ⟨.int .i64 12, v1, 1⟩, ⟨.int .i64 13, v2, 2⟩, ⟨.int .i64 14, v3, 3⟩] 4)) = .ok () ((w).alloc (.map #[⟨.int .i64 11, v0, 0⟩, ⟨.int .i64 12, v1, 1⟩, ⟨.int .i64 13, v2, 2⟩, ⟨.int .i64 14, v3, 3⟩, ⟨.int .i64 15, v4, 4⟩] 5)) := fun v0 v1 v2 v3 v4 => run_put Try.underlying85 Try.underlying3 rfl rfl
  have p5 : ∀ (v0 v1 v2 v3 v4 v5 : Value), (Instr.mapUpdate 85 (.map (some (w.heap.size))) (.int .i64 16) v5).run Try.prog ((w).alloc (.map #[⟨.int .i64 11, v0, 0⟩, ⟨.int .i64 12, v1, 1⟩, ⟨.int .i64 13, v2, 2⟩, ⟨.int .i64 14, v3, 3⟩, ⟨.int .i64 15, v4, 4⟩] 5)) = .ok () ((w).alloc (.map #[⟨.int .i64 11, v0, 0⟩, ⟨.int .i64 12, v1, 1⟩, ⟨.int .i64 13, v2, 2⟩, ⟨.int .i64 14, v3, 3⟩, ⟨.int .i64 15, v4, 4⟩, ⟨.int .i64 16, v5, 5⟩] 6)) := fun v0 v1 v2 v3 v4 v5 => run_put Try.underlying85 Try.underlying3 rfl rfl
  go_enter Try.func45, Try.ntmps45
  go_wp2
  go_ret
  exact ⟨w.heap.size, rfl, (by have := (heap_alloc w (.map #[⟨.int .i64 11, .func (.func 71) #[] #[], 0⟩, ⟨.int .i64 12, .func (.func 72) #[] #[], 1⟩, ⟨.int .i64 13, .func (.func 73) #[] #[], 2⟩, ⟨.int .i64 14, .func (.func 75) #[] #[], 3⟩, ⟨.int .i64 15, .func (.func 76) #[] #[], 4⟩, ⟨.int .i64 16, .func (.func 77) #[] #[], 5⟩] 6)).1; simpa using this), by simp, by simp, (Below.refl _ _).alloc (Nat.le_refl _) _⟩

set_option maxRecDepth 100000 in
set_option maxHeartbeats 2000000 in
theorem pcomparisons_3 (w : World) : Calls Try.prog 45 #[.int .i64 3] w (MapOut #[⟨.int .i64 11, .func (.func 71) #[] #[], 0⟩, ⟨.int .i64 12, .func (.func 72) #[] #[], 1⟩] 2 w) := by
  have hmm := @run_makeMap Try.prog
  have p0 : ∀ (v0 : Value), (Instr.mapUpdate 85 (.map (some (w.heap.size))) (.int .i64 11) v0).run Try.prog ((w).alloc (.map #[] 0)) = .ok () ((w).alloc (.map #[⟨.int .i64 11, v0, 0⟩] 1)) := fun v0 => run_put Try.underlying85 Try.underlying3 rfl rfl
  have p1 : ∀ (v0 v1 : Value), (Instr.mapUpdate 85 (.map (some (w.heap.size))) (.int .i64 12) v1).run Try.prog ((w).alloc (.map #[⟨.int .i64 11, v0, 0⟩] 1)) = .ok () ((w).alloc (.map #[⟨.int .i64 11, v0, 0⟩, ⟨.int .i64 12, v1, 1⟩] 2)) := fun v0 v1 => run_put Try.underlying85 Try.underlying3 rfl rfl
  go_enter Try.func45, Try.ntmps45
  go_wp2
  go_ret
  exact ⟨w.heap.size, rfl, (by have := (heap_alloc w (.map #[⟨.int .i64 11, .func (.func 71) #[] #[], 0⟩, ⟨.int .i64 12, .func (.func 72) #[] #[], 1⟩] 2)).1; simpa using this), by simp, by simp, (Below.refl _ _).alloc (Nat.le_refl _) _⟩

set_option maxHeartbeats 400000 in
theorem pcomparisons_no (k : Int) (h1 : (k == 1) = false) (h2 : (k == 2) = false) (h3 : (k == 3) = false) (w : World) : Calls Try.prog 45 #[.int .i64 k] w fun e w' => e = .returned (.map none) ∧ w = w' := by
  go_enter Try.func45, Try.ntmps45
  go_wp2
  go_ret
  exact ⟨rfl, rfl⟩

set_option maxRecDepth 100000 in
set_option maxHeartbeats 2000000 in
theorem pconnectives (w : World) : Calls Try.prog 61 #[] w (MapOut #[⟨.int .i64 17, .func (.func 106) #[] #[], 0⟩, ⟨.int .i64 18, .func (.func 107) #[] #[], 1⟩] 2 w) := by
  have hmm := @run_makeMap Try.prog
  have p0 : ∀ (v0 : Value), (Instr.mapUpdate 100 (.map (some (w.heap.size))) (.int .i64 17) v0).run Try.prog ((w).alloc (.map #[] 0)) = .ok () ((w).alloc (.map #[⟨.int .i64 17, v0, 0⟩] 1)) := fun v0 => run_put Try.underlying100 Try.underlying3 rfl rfl
  have p1 : ∀ (v0 v1 : Value), (Instr.mapUpdate 100 (.map (some (w.heap.size))) (.int .i64 18) v1).run Try.prog ((w).alloc (.map #[⟨.int .i64 17, v0, 0⟩] 1)) = .ok () ((w).alloc (.map #[⟨.int .i64 17, v0, 0⟩, ⟨.int .i64 18, v1, 1⟩] 2)) := fun v0 v1 => run_put Try.underlying100 Try.underlying3 rfl rfl
  go_enter Try.func61, Try.ntmps61
  go_wp2
  go_ret
  exact ⟨w.heap.size, rfl, (by have := (heap_alloc w (.map #[⟨.int .i64 17, .func (.func 106) #[] #[], 0⟩, ⟨.int .i64 18, .func (.func 107) #[] #[], 1⟩] 2)).1; simpa using this), by simp, by simp, (Below.refl _ _).alloc (Nat.le_refl _) _⟩

/-- The map of a kind, and the cell of the kind that its closures look at. -/
def BoxOut (k : Int) (es : Nat → Array MapEntry) (n : Nat) (w : World) (e : Ending) (w' : World) : Prop := ∃ b, e = .returned (.map (some b)) ∧ w'.heap[b]? = some (.map (es w.heap.size) n) ∧ b < w'.heap.size ∧ w'.cell? ⟨w.heap.size, 0, none⟩ = some (.int .i64 k) ∧ w.heap.size < w'.heap.size ∧ Below w.heap.size w w'

def bitwiseEs (n : Nat) : Array MapEntry := #[⟨.int .i64 8, .func (.func 82) #[] #[.pointer (some ⟨n, 0, none⟩)], 0⟩, ⟨.int .i64 9, .func (.func 86) #[] #[.pointer (some ⟨n, 0, none⟩)], 1⟩, ⟨.int .i64 10, .func (.func 88) #[] #[.pointer (some ⟨n, 0, none⟩)], 2⟩]
set_option maxRecDepth 100000 in
set_option maxHeartbeats 2000000 in
theorem pbitwise (k : Int) (w : World) : Calls Try.prog 59 #[.int .i64 k] w (BoxOut k bitwiseEs 3 w) := by
  have hmm := @run_makeMap Try.prog
  have p0 : ∀ (v0 : Value), (Instr.mapUpdate 100 (.map (some (w.heap.size + 1))) (.int .i64 8) v0).run Try.prog (((w.alloc (.cells #[.int .i64 k] 3))).alloc (.map #[] 0)) = .ok () (((w.alloc (.cells #[.int .i64 k] 3))).alloc (.map #[⟨.int .i64 8, v0, 0⟩] 1)) := fun v0 => run_put Try.underlying100 Try.underlying3 (by simp) rfl
  have p1 : ∀ (v0 v1 : Value), (Instr.mapUpdate 100 (.map (some (w.heap.size + 1))) (.int .i64 9) v1).run Try.prog (((w.alloc (.cells #[.int .i64 k] 3))).alloc (.map #[⟨.int .i64 8, v0, 0⟩] 1)) = .ok () (((w.alloc (.cells #[.int .i64 k] 3))).alloc (.map #[⟨.int .i64 8, v0, 0⟩, ⟨.int .i64 9, v1, 1⟩] 2)) := fun v0 v1 => run_put Try.underlying100 Try.underlying3 (by simp) rfl
  have p2 : ∀ (v0 v1 v2 : Value), (Instr.mapUpdate 100 (.map (some (w.heap.size + 1))) (.int .i64 10) v2).run Try.prog (((w.alloc (.cells #[.int .i64 k] 3))).alloc (.map #[⟨.int .i64 8, v0, 0⟩, ⟨.int .i64 9, v1, 1⟩] 2)) = .ok () (((w.alloc (.cells #[.int .i64 k] 3))).alloc (.map #[⟨.int .i64 8, v0, 0⟩, ⟨.int .i64 9, v1, 1⟩, ⟨.int .i64 10, v2, 2⟩] 3)) := fun v0 v1 v2 => run_put Try.underlying100 Try.underlying3 (by simp) rfl
  go_enter Try.func59, Try.ntmps59
  go_wp2
  go_ret
  exact ⟨w.heap.size + 1, rfl, (by have := (heap_alloc (w.alloc (.cells #[.int .i64 k] 3)) (.map (bitwiseEs w.heap.size) 3)).1; simpa [bitwiseEs] using this), by simp, by go_simp, by simp; omega, ((Below.refl _ _).alloc (Nat.le_refl _) _).alloc (by simp) _⟩

def arithmeticEs (n : Nat) : Array MapEntry := #[⟨.int .i64 1, .func (.func 89) #[] #[.pointer (some ⟨n, 0, none⟩)], 0⟩, ⟨.int .i64 2, .func (.func 92) #[] #[.pointer (some ⟨n, 0, none⟩)], 1⟩, ⟨.int .i64 3, .func (.func 96) #[] #[], 2⟩, ⟨.int .i64 4, .func (.func 98) #[] #[.pointer (some ⟨n, 0, none⟩)], 3⟩, ⟨.int .i64 5, .func (.func 100) #[] #[.pointer (some ⟨n, 0, none⟩)], 4⟩, ⟨.int .i64 6, .func (.func 101) #[] #[.pointer (some ⟨n, 0, none⟩)], 5⟩, ⟨.int .i64 7, .func (.func 104) #[] #[.pointer (some ⟨n, 0, none⟩)], 6⟩]
set_option maxRecDepth 100000 in
set_option maxHeartbeats 2000000 in
theorem parithmetic (k : Int) (w : World) : Calls Try.prog 60 #[.int .i64 k] w (BoxOut k arithmeticEs 7 w) := by
  have hmm := @run_makeMap Try.prog
  have p0 : ∀ (v0 : Value), (Instr.mapUpdate 100 (.map (some (w.heap.size + 1))) (.int .i64 1) v0).run Try.prog (((w.alloc (.cells #[.int .i64 k] 3))).alloc (.map #[] 0)) = .ok () (((w.alloc (.cells #[.int .i64 k] 3))).alloc (.map #[⟨.int .i64 1, v0, 0⟩] 1)) := fun v0 => run_put Try.underlying100 Try.underlying3 (by simp) rfl
  have p1 : ∀ (v0 v1 : Value), (Instr.mapUpdate 100 (.map (some (w.heap.size + 1))) (.int .i64 2) v1).run Try.prog (((w.alloc (.cells #[.int .i64 k] 3))).alloc (.map #[⟨.int .i64 1, v0, 0⟩] 1)) = .ok () (((w.alloc (.cells #[.int .i64 k] 3))).alloc (.map #[⟨.int .i64 1, v0, 0⟩, ⟨.int .i64 2, v1, 1⟩] 2)) := fun v0 v1 => run_put Try.underlying100 Try.underlying3 (by simp) rfl
  have p2 : ∀ (v0 v1 v2 : Value), (Instr.mapUpdate 100 (.map (some (w.heap.size + 1))) (.int .i64 3) v2).run Try.prog (((w.alloc (.cells #[.int .i64 k] 3))).alloc (.map #[⟨.int .i64 1, v0, 0⟩, ⟨.int .i64 2, v1, 1⟩] 2)) = .ok () (((w.alloc (.cells #[.int .i64 k] 3))).alloc (.map #[⟨.int .i64 1, v0, 0⟩, ⟨.int .i64 2, v1, 1⟩, ⟨.int .i64 3, v2, 2⟩] 3)) := fun v0 v1 v2 => run_put Try.underlying100 Try.underlying3 (by simp) rfl
  have p3 : ∀ (v0 v1 v2 v3 : Value), (Instr.mapUpdate 100 (.map (some (w.heap.size + 1))) (.int .i64 4) v3).run Try.prog (((w.alloc (.cells #[.int .i64 k] 3))).alloc (.map #[⟨.int .i64 1, v0, 0⟩, ⟨.int .i64 2, v1, 1⟩, ⟨.int .i64 3, v2, 2⟩] 3)) = .ok () (((w.alloc (.cells #[.int .i64 k] 3))).alloc (.map #[⟨.int .i64 1, v0, 0⟩, ⟨.int .i64 2, v1, 1⟩, ⟨.int .i64 3, v2, 2⟩, ⟨.int .i64 4, v3, 3⟩] 4)) := fun v0 v1 v2 v3 => run_put Try.underlying100 Try.underlying3 (by simp) rfl
  have p4 : ∀ (v0 v1 v2 v3 v4 : Value), (Instr.mapUpdate 100 (.map (some (w.heap.size + 1))) (.int .i64 5) v4).run Try.prog (((w.alloc (.cells #[.int .i64 k] 3))).alloc (.map #[⟨.int .i64 1, v0, 0⟩, ⟨.int .i64 2, v1, 1⟩, ⟨.int .i64 3, v2, 2⟩, ⟨.int .i64 4, v3, 3⟩] 4)) = .ok () (((w.alloc (.cells #[.int .i64 k] 3))).alloc (.map #[⟨.int .i64 1, v0, 0⟩, ⟨.int .i64 2, v1, 1⟩, ⟨.int .i64 3, v2, 2⟩, ⟨.int .i64 4, v3, 3⟩, ⟨.int .i64 5, v4, 4⟩] 5)) := fun v0 v1 v2 v3 v4 => run_put Try.underlying100 Try.underlying3 (by simp) rfl
  have p5 : ∀ (v0 v1 v2 v3 v4 v5 : Value), (Instr.mapUpdate 100 (.map (some (w.heap.size + 1))) (.int .i64 6) v5).run Try.prog (((w.alloc (.cells #[.int .i64 k] 3))).alloc (.map #[⟨.int .i64 1, v0, 0⟩, ⟨.int .i64 2, v1, 1⟩, ⟨.int .i64 3, v2, 2⟩, ⟨.int .i64 4, v3, 3⟩, ⟨.int .i64 5, v4, 4⟩] 5)) = .ok () (((w.alloc (.cells #[.int .i64 k] 3))).alloc (.map #[⟨.int .i64 1, v0, 0⟩, ⟨.int .i64 2, v1, 1⟩, ⟨.int .i64 3, v2, 2⟩, ⟨.int .i64 4, v3, 3⟩, ⟨.int .i64 5, v4, 4⟩, ⟨.int .i64 6, v5, 5⟩] 6)) := fun v0 v1 v2 v3 v4 v5 => run_put Try.underlying100 Try.underlying3 (by simp) rfl
  have p6 : ∀ (v0 v1 v2 v3 v4 v5 v6 : Value), (Instr.mapUpdate 100 (.map (some (w.heap.size + 1))) (.int .i64 7) v6).run Try.prog (((w.alloc (.cells #[.int .i64 k] 3))).alloc (.map #[⟨.int .i64 1, v0, 0⟩, ⟨.int .i64 2, v1, 1⟩, ⟨.int .i64 3, v2, 2⟩, ⟨.int .i64 4, v3, 3⟩, ⟨.int .i64 5, v4, 4⟩, ⟨.int .i64 6, v5, 5⟩] 6)) = .ok () (((w.alloc (.cells #[.int .i64 k] 3))).alloc (.map #[⟨.int .i64 1, v0, 0⟩, ⟨.int .i64 2, v1, 1⟩, ⟨.int .i64 3, v2, 2⟩, ⟨.int .i64 4, v3, 3⟩, ⟨.int .i64 5, v4, 4⟩, ⟨.int .i64 6, v5, 5⟩, ⟨.int .i64 7, v6, 6⟩] 7)) := fun v0 v1 v2 v3 v4 v5 v6 => run_put Try.underlying100 Try.underlying3 (by simp) rfl
  go_enter Try.func60, Try.ntmps60
  go_wp2
  go_ret
  exact ⟨w.heap.size + 1, rfl, (by have := (heap_alloc (w.alloc (.cells #[.int .i64 k] 3)) (.map (arithmeticEs w.heap.size) 7)).1; simpa [arithmeticEs] using this), by simp, by go_simp, by simp; omega, ((Below.refl _ _).alloc (Nat.le_refl _) _).alloc (by simp) _⟩

end Go.Proofs.Ytgkhldbnljdeiaa
