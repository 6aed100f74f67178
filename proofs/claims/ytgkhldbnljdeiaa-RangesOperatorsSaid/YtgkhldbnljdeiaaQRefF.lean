/- The contracts of the reference function left of layer 4, operator by operator. -/
import Derived.RegionTactic
import Derived.ChangeAlike
import Derived.BigRegion
import Derived.Deep.RegionHeld3
import Derived.Deep.DeepCutAuto
import Derived.Deep.CutBlock
import Derived.Test.YtgkhldbnljdeiaaQRefE
import Derived.Test.YtgkhldbnljdeiaaQSetSelfToRefB
set_option maxRecDepth 100000
set_option maxHeartbeats 2000000
set_option linter.unusedSimpArgs false
set_option linter.unusedVariables false
namespace Go.Proofs.Ytgkhldbnljdeiaa
open Go.RowKit
attribute [local go_sem] World.setCell_self
theorem left_lt (a b c d : Int) (w : World) (hab : a ≤ b) (hcd : c ≤ d) (hd : -9223372036854775807 ≤ d) (ha : a ≤ 9223372036854775806) (hb : b ≤ 9223372036854775807) (hd2 : d ≤ 9223372036854775807) (ha2 : -9223372036854775808 ≤ a) :
   Calls Try.prog 48 #[.int .i64 13, .agg #[.int .i64 a, .int .i64 b], .agg #[.int .i64 c, .int .i64 d]] w fun e w' => e = .returned (.tuple #[.agg #[.int .i64 a, .int .i64 (min b (d - 1))], .agg #[.int .i64 (max c (a + 1)), .int .i64 d], .bool (decide (a < d))]) ∧ Below w.heap.size w w' := by
 have g1 : decide (a ≤ min b (d - 1)) = decide (a < d) := by simp; omega
 have g2 : decide (a < d) = true → decide (max c (a + 1) ≤ d) = true := by simp; omega
 generalize hx : min b (d - 1) = X at *
 generalize hy : max c (a + 1) = Y at *
 have HX := Lib.hid hx
 have HY := Lib.hid hy
 have G1 := Lib.hid g1
 have G2 := Lib.hid g2
 clear hx hy g1 g2
 go_enter Try.func48, Try.ntmps48
 go_wp2
 go_region
 go_upto_block 0 with fail
 go_cut [8] (fun _ wx => LeftMid w wx a X Y d)
 case first =>
   go_wp2
   · exfalso
     have hbad : (d == -9223372036854775808) = true ∨ (a == 9223372036854775807) = true := by assumption
     simp only [beq_iff_eq] at hbad
     omega
   go_region
   go_wp2
   all_goals
     go_meet
     exact ⟨by first | (go_simp; done) | (go_simp; have hx := HX.out; have hy := HY.out; omega), by first | (go_simp; done) | (go_simp; have hx := HX.out; have hy := HY.out; omega), by first | (go_simp; done) | (go_simp; have hx := HX.out; have hy := HY.out; omega), by first | (go_simp; done) | (go_simp; have hx := HX.out; have hy := HY.out; omega), by go_simp, by go_simp, by go_simp, by go_simp, (((((Below.refl _ _).alloc (Nat.le_refl _) _).alloc (by simp) _).alloc (by simp; omega) _).alloc (by simp; omega) _).drew.drew⟩
 case rest =>
   obtain ⟨c1, c2, c3, c4, f1, f2, f3, f4, hB⟩ := hcut
   have G1' := G1.out
   have G2' := G2.out
   cases hr : decide (a < d)
   · rw [hr] at G1'
     clear G2'
     go_wp2
     go_region
     go_wp2
     refine bodyPost_ret (v := .tuple #[.agg #[.int .i64 a, .int .i64 X], .agg #[.int .i64 Y, .int .i64 d], .bool false]) (by simp [results, Try.results48, go_sem, *]) rfl ⟨by rw [hr], ?_⟩
     exact hB.drew
   · rw [hr] at G1'
     have G2'' := G2' hr
     clear G2'
     go_wp2
     go_region_held3 (fun w' => w'.cell? ⟨w.heap.size + 1 + 1, 0, none⟩ = some (.int .i64 a) ∧ w'.cell? ⟨w.heap.size + 1 + 1, 1, none⟩ = some (.int .i64 X) ∧ w'.cell? ⟨w.heap.size + 1 + 1 + 1, 0, none⟩ = some (.int .i64 Y) ∧ w'.cell? ⟨w.heap.size + 1 + 1 + 1, 1, none⟩ = some (.int .i64 d))
       (first | go_keep)
       ((fail))
     go_wp2
     refine bodyPost_ret (v := .tuple #[.agg #[.int .i64 a, .int .i64 X], .agg #[.int .i64 Y, .int .i64 d], .bool true]) (by simp [results, Try.results48, go_sem, *]) rfl ⟨by rw [hr], ?_⟩
     exact hB.drew
end Go.Proofs.Ytgkhldbnljdeiaa
