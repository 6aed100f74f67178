/- The contracts of the reference function left of layer 4, operator by operator. -/
import Derived.RegionTactic
import Derived.ChangeAlike
import Derived.BigRegion
import Derived.Deep.RegionHeld3
import Derived.Deep.DeepCutAuto
import Derived.Deep.CutBlock
import Derived.Test.YtgkhldbnljdeiaaQRefF
import Derived.Test.YtgkhldbnljdeiaaQSetSelfToRefB
set_option maxRecDepth 100000
set_option maxHeartbeats 1000000
set_option linter.unusedSimpArgs false
set_option linter.unusedVariables false
namespace Go.Proofs.Ytgkhldbnljdeiaa
open Go.RowKit
attribute [local go_sem] World.setCell_self
theorem left_lt_edge1 (a b c d : Int) (w : World) (h : (d == -9223372036854775808) = true) :
   Calls Try.prog 48 #[.int .i64 13, .agg #[.int .i64 a, .int .i64 b], .agg #[.int .i64 c, .int .i64 d]] w fun e w' => e = .returned (.tuple #[.agg #[.int .i64 a, .int .i64 b], .agg #[.int .i64 c, .int .i64 d], .bool false]) ∧ Below w.heap.size w w' := by
 go_enter Try.func48, Try.ntmps48
 go_wp2
 go_region
 go_wp2
 go_region
 go_wp2
 refine bodyPost_ret (v := .tuple #[.agg #[.int .i64 a, .int .i64 b], .agg #[.int .i64 c, .int .i64 d], .bool false]) (by simp [results, Try.results48, go_sem]) rfl ⟨rfl, ?_⟩
 exact (((((Below.refl _ _).alloc (Nat.le_refl _) _).alloc (by simp) _).alloc (by simp; omega) _).alloc (by simp; omega) _).drew.drew
theorem left_lt_edge2 (a b c d : Int) (w : World) (h : (d == -9223372036854775808) = false) (h2 : (a == 9223372036854775807) = true) :
   Calls Try.prog 48 #[.int .i64 13, .agg #[.int .i64 a, .int .i64 b], .agg #[.int .i64 c, .int .i64 d]] w fun e w' => e = .returned (.tuple #[.agg #[.int .i64 a, .int .i64 b], .agg #[.int .i64 c, .int .i64 d], .bool false]) ∧ Below w.heap.size w w' := by
 go_enter Try.func48, Try.ntmps48
 go_wp2
 go_region
 go_wp2
 go_region
 go_wp2
 refine bodyPost_ret (v := .tuple #[.agg #[.int .i64 a, .int .i64 b], .agg #[.int .i64 c, .int .i64 d], .bool false]) (by simp [results, Try.results48, go_sem]) rfl ⟨rfl, ?_⟩
 exact (((((Below.refl _ _).alloc (Nat.le_refl _) _).alloc (by simp) _).alloc (by simp; omega) _).alloc (by simp; omega) _).drew.drew
theorem left_eq_yes (a b c d : Int) (w : World) (hab : a ≤ b) (hcd : c ≤ d) (hm : max a c ≤ min b d) :
   Calls Try.prog 48 #[.int .i64 11, .agg #[.int .i64 a, .int .i64 b], .agg #[.int .i64 c, .int .i64 d]] w fun e w' => e = .returned (.tuple #[.agg #[.int .i64 (max a c), .int .i64 (min b d)], .agg #[.int .i64 (max a c), .int .i64 (min b d)], .bool true]) ∧ Below w.heap.size w w' := by
 have con := meet_yes a b c d
 generalize max a c = X at *
 generalize min b d = Y at *
 have CON := fun w => Lib.hid (con w hab hcd hm)
 clear con hm
 go_enter Try.func48, Try.ntmps48
 go_wp2
 go_region
 go_wp2_with (go_at_call 18; refine (CON _).out.mono ?_; rintro e w' ⟨rfl, hB⟩; obtain ⟨hc, hf⟩ := bcell hB; have hz : w.heap.size + 1 + 1 + 1 < w'.heap.size := by have := hB.size; simp at this; omega)
 refine bodyPost_ret (v := .tuple #[.agg #[.int .i64 X, .int .i64 Y], .agg #[.int .i64 X, .int .i64 Y], .bool true]) (by simp [results, Try.results48, go_sem, hc, hz]) rfl ⟨rfl, ?_⟩
 exact ((((((((((((Below.refl _ _).alloc (Nat.le_refl _) _).alloc (by simp) _).alloc (by simp; omega) _).alloc (by simp; omega) _).drew.trans (hB.mono (by simp; omega))).setCell (by simp; omega) _).setCell (by simp; omega) _).setCell (by simp; omega) _).setCell (by simp; omega) _)))
theorem left_eq_no (a b c d : Int) (w : World) (hab : a ≤ b) (hcd : c ≤ d) (hm : min b d < max a c) :
   Calls Try.prog 48 #[.int .i64 11, .agg #[.int .i64 a, .int .i64 b], .agg #[.int .i64 c, .int .i64 d]] w fun e w' => e = .returned (.tuple #[.agg #[.int .i64 0, .int .i64 0], .agg #[.int .i64 0, .int .i64 0], .bool false]) ∧ Below w.heap.size w w' := by
 have CON := fun w => Lib.hid (meet_no a b c d w hab hcd hm)
 clear hm
 go_enter Try.func48, Try.ntmps48
 go_wp2
 go_region
 go_wp2_with (go_at_call 18; refine (CON _).out.mono ?_; rintro e w' ⟨rfl, hB⟩; obtain ⟨hc, hf⟩ := bcell hB; have hz : w.heap.size + 1 + 1 + 1 < w'.heap.size := by have := hB.size; simp at this; omega)
 refine bodyPost_ret (v := .tuple #[.agg #[.int .i64 0, .int .i64 0], .agg #[.int .i64 0, .int .i64 0], .bool false]) (by simp [results, Try.results48, go_sem, hc, hz]) rfl ⟨rfl, ?_⟩
 exact ((((((((((((Below.refl _ _).alloc (Nat.le_refl _) _).alloc (by simp) _).alloc (by simp; omega) _).alloc (by simp; omega) _).drew.trans (hB.mono (by simp; omega))).setCell (by simp; omega) _).setCell (by simp; omega) _).setCell (by simp; omega) _).setCell (by simp; omega) _)))
theorem left_gt (a b c d : Int) (w : World) (x0 x1 y0 y1 : Int) (p : Bool) (h : ∀ w, Calls Try.prog 48 #[.int .i64 13, .agg #[.int .i64 c, .int .i64 d], .agg #[.int .i64 a, .int .i64 b]] w fun e w' => e = .returned (.tuple #[.agg #[.int .i64 y0, .int .i64 y1], .agg #[.int .i64 x0, .int .i64 x1], .bool p]) ∧ Below w.heap.size w w') :
   Calls Try.prog 48 #[.int .i64 15, .agg #[.int .i64 a, .int .i64 b], .agg #[.int .i64 c, .int .i64 d]] w fun e w' => e = .returned (.tuple #[.agg #[.int .i64 x0, .int .i64 x1], .agg #[.int .i64 y0, .int .i64 y1], .bool p]) ∧ Below w.heap.size w w' := by
 have CON := Lib.hid h
 clear h
 go_enter Try.func48, Try.ntmps48
 go_wp2_with fail
 go_region
 go_wp2_with (go_at_call 48; refine (CON.out _).mono ?_; rintro e w' ⟨rfl, hB⟩; obtain ⟨hc, hf⟩ := bcell hB; have hz : w.heap.size + 1 + 1 + 1 < w'.heap.size := by have := hB.size; simp at this; omega)
 go_region
 go_wp2
 refine bodyPost_ret (v := .tuple #[.agg #[.int .i64 x0, .int .i64 x1], .agg #[.int .i64 y0, .int .i64 y1], .bool p]) (by simp [results, Try.results48, go_sem, hc, hz]) rfl ⟨rfl, ?_⟩
 exact (((((((((((Below.refl _ _).alloc (Nat.le_refl _) _).alloc (by simp) _).alloc (by simp; omega) _).alloc (by simp; omega) _).drew.trans (hB.mono (by simp; omega))).setCell (by simp; omega) _).setCell (by simp; omega) _).setCell (by simp; omega) _).setCell (by simp; omega) _).drew)
theorem left_ge (a b c d : Int) (w : World) (x0 x1 y0 y1 : Int) (p : Bool) (h : ∀ w, Calls Try.prog 48 #[.int .i64 14, .agg #[.int .i64 c, .int .i64 d], .agg #[.int .i64 a, .int .i64 b]] w fun e w' => e = .returned (.tuple #[.agg #[.int .i64 y0, .int .i64 y1], .agg #[.int .i64 x0, .int .i64 x1], .bool p]) ∧ Below w.heap.size w w') :
   Calls Try.prog 48 #[.int .i64 16, .agg #[.int .i64 a, .int .i64 b], .agg #[.int .i64 c, .int .i64 d]] w fun e w' => e = .returned (.tuple #[.agg #[.int .i64 x0, .int .i64 x1], .agg #[.int .i64 y0, .int .i64 y1], .bool p]) ∧ Below w.heap.size w w' := by
 have CON := Lib.hid h
 clear h
 go_enter Try.func48, Try.ntmps48
 go_wp2_with fail
 go_region
 go_wp2_with (go_at_call 48; refine (CON.out _).mono ?_; rintro e w' ⟨rfl, hB⟩; obtain ⟨hc, hf⟩ := bcell hB; have hz : w.heap.size + 1 + 1 + 1 < w'.heap.size := by have := hB.size; simp at this; omega)
 go_region
 go_wp2
 refine bodyPost_ret (v := .tuple #[.agg #[.int .i64 x0, .int .i64 x1], .agg #[.int .i64 y0, .int .i64 y1], .bool p]) (by simp [results, Try.results48, go_sem, hc, hz]) rfl ⟨rfl, ?_⟩
 exact (((((((((((Below.refl _ _).alloc (Nat.le_refl _) _).alloc (by simp) _).alloc (by simp; omega) _).alloc (by simp; omega) _).drew.trans (hB.mono (by simp; omega))).setCell (by simp; omega) _).setCell (by simp; omega) _).setCell (by simp; omega) _).setCell (by simp; omega) _).drew)
end Go.Proofs.Ytgkhldbnljdeiaa
