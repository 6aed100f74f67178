/- The contract of remainders of layer 4. -/
import Derived.Test.YtgkhldbnljdeiaaPutRules
import Derived.Deep.CutBlock
import Derived.Deep.DeepCutAuto
import Derived.Test.YtgkhldbnljdeiaaQRngZ9
set_option maxRecDepth 100000
set_option maxHeartbeats 4000000
set_option linter.unusedSimpArgs false
set_option linter.unusedVariables false
namespace Go.Proofs.Ytgkhldbnljdeiaa
open Go.RowKit RangesMath
attribute [local go_sem] World.setCell_self
attribute [local go_sem ↓] Go.wp_at_zero Go.wp_at_succ
def DivOut (a b c d : Int) (l : List Pr) : Prop := ∀ w, Hid (Calls Try.prog 95 #[.agg #[.int .i64 a, .int .i64 b], .agg #[.int .i64 c, .int .i64 d]] w (PairsOut l w))
def SizesOut (c d l g : Int) : Prop := ∀ w, Hid (Calls Try.prog 116 #[.agg #[.int .i64 c, .int .i64 d]] w fun e w' => e = .returned (.tuple #[.int .u64 l, .int .u64 g]) ∧ Below w.heap.size w w')
def RemCall (a b c d x y : Int) (s : Bool) (w : World) : Prop := Calls Try.prog 97 #[.agg #[.int .i64 a, .int .i64 b], .agg #[.int .i64 c, .int .i64 d]] w fun e w' => e = .returned (.agg #[.int .i64 x, .int .i64 y, .bool s, .bool false, .bool false]) ∧ Below w.heap.size w w'
theorem prem_none (a b c d : Int) (w : World) (D : DivOut a b c d []) : RemCall a b c d 0 0 false w := by
 unfold RemCall
 go_enter Try.func97, Try.ntmps97
 go_wp2_with fail
 have KI : Keeps (w.heap.size) [(w.heap.size, 0, .int .i64 a), (w.heap.size, 1, .int .i64 b), (w.heap.size + 1, 0, .int .i64 c), (w.heap.size + 1, 1, .int .i64 d)] [(w.heap.size + 1 + 1, 0), (w.heap.size + 1 + 1, 1), (w.heap.size + 1 + 1, 2), (w.heap.size + 1 + 1, 3), (w.heap.size + 1 + 1, 4)] w (((w.alloc (.cells #[.int .i64 a, .int .i64 b] 23)).alloc (.cells #[.int .i64 c, .int .i64 d] 23)).alloc (.cells #[.int .i64 0, .int .i64 0, .bool false, .bool false, .bool false] 37)) := by
   refine ⟨?_, ?_, ?_, ?_, by simp; try omega, (((Below.refl _ _).alloc (Nat.le_refl _) _).alloc (by simp) _).alloc (by simp; omega) _⟩
   · simp only [fm, nm, false_imp_iff, implies_true, and_true]
     exact ⟨by go_simp, by go_simp, by go_simp, by go_simp⟩
   · simp only [fm, nm, false_imp_iff, implies_true, and_true]
     exact ⟨valAt_some (by go_simp), valAt_some (by go_simp), valAt_some (by go_simp), valAt_some (by go_simp), valAt_some (by go_simp)⟩
   · simp only [fm, nm, false_imp_iff, implies_true, and_true]
     exact ⟨by go_simp, by go_simp, by go_simp, by go_simp, by go_simp⟩
   · simp only [fm, nm, false_imp_iff, implies_true, and_true]
     exact ⟨by simp; try omega, by simp; try omega, by simp; try omega, by simp; try omega, by simp; try omega⟩
 have KI := Lib.hid KI
 generalize (((w.alloc (.cells #[.int .i64 a, .int .i64 b] 23)).alloc (.cells #[.int .i64 c, .int .i64 d] 23)).alloc (.cells #[.int .i64 0, .int .i64 0, .bool false, .bool false, .bool false] 37)) = W at *
 refine (D _).out.mono ?_
 rintro e w1 ⟨v, rfl, hown, hB⟩
 have K1 := KI.out.later hB
 obtain ⟨o, cp, rfl, hcp, hform⟩ := owns_form hown
 clear hown hform hB hcp
 have k0 : w1.cell? ⟨w.heap.size, 0, none⟩ = some (.int .i64 a) := (K1).fixed (w.heap.size, 0, .int .i64 a) (by simp)
 have k1 : w1.cell? ⟨w.heap.size, 1, none⟩ = some (.int .i64 b) := (K1).fixed (w.heap.size, 1, .int .i64 b) (by simp)
 have k2 : w1.cell? ⟨w.heap.size + 1, 0, none⟩ = some (.int .i64 c) := (K1).fixed (w.heap.size + 1, 0, .int .i64 c) (by simp)
 have k3 : w1.cell? ⟨w.heap.size + 1, 1, none⟩ = some (.int .i64 d) := (K1).fixed (w.heap.size + 1, 1, .int .i64 d) (by simp)
 have v0 : w1.cell? ⟨w.heap.size + 1 + 1, 0, none⟩ = some (valAt w1 ⟨w.heap.size + 1 + 1, 0, none⟩) := (K1).there (w.heap.size + 1 + 1, 0) (by simp)
 have f0 : w1.frozen? ⟨w.heap.size + 1 + 1, 0, none⟩ = false := (K1).froz (w.heap.size + 1 + 1, 0) (by simp)
 have v1 : w1.cell? ⟨w.heap.size + 1 + 1, 1, none⟩ = some (valAt w1 ⟨w.heap.size + 1 + 1, 1, none⟩) := (K1).there (w.heap.size + 1 + 1, 1) (by simp)
 have f1 : w1.frozen? ⟨w.heap.size + 1 + 1, 1, none⟩ = false := (K1).froz (w.heap.size + 1 + 1, 1) (by simp)
 have v2 : w1.cell? ⟨w.heap.size + 1 + 1, 2, none⟩ = some (valAt w1 ⟨w.heap.size + 1 + 1, 2, none⟩) := (K1).there (w.heap.size + 1 + 1, 2) (by simp)
 have f2 : w1.frozen? ⟨w.heap.size + 1 + 1, 2, none⟩ = false := (K1).froz (w.heap.size + 1 + 1, 2) (by simp)
 have v3 : w1.cell? ⟨w.heap.size + 1 + 1, 3, none⟩ = some (valAt w1 ⟨w.heap.size + 1 + 1, 3, none⟩) := (K1).there (w.heap.size + 1 + 1, 3) (by simp)
 have f3 : w1.frozen? ⟨w.heap.size + 1 + 1, 3, none⟩ = false := (K1).froz (w.heap.size + 1 + 1, 3) (by simp)
 have v4 : w1.cell? ⟨w.heap.size + 1 + 1, 4, none⟩ = some (valAt w1 ⟨w.heap.size + 1 + 1, 4, none⟩) := (K1).there (w.heap.size + 1 + 1, 4) (by simp)
 have f4 : w1.frozen? ⟨w.heap.size + 1 + 1, 4, none⟩ = false := (K1).froz (w.heap.size + 1 + 1, 4) (by simp)
 have z0 : w.heap.size + 1 + 1 < w1.heap.size := (K1).lt (w.heap.size + 1 + 1, 0) (by simp)
 go_wp2
 refine bodyPost_ret (v := .agg #[.int .i64 0, .int .i64 0, .bool false, .bool false, .bool false]) (by simp [results, Try.results97, go_sem, v0, v1, v2, v3, v4]) rfl ⟨rfl, ?_⟩
 have bl := K1.bl
 exact ((((bl.setCell (by simp; omega) _).setCell (by simp; omega) _).setCell (by simp; omega) _).setCell (by simp; omega) _).setCell (by simp; omega) _
theorem prem_small (a b c d l g A E : Int) (L : List Pr) (w : World) (h0 : 0 < L.length) (D : DivOut a b c d L) (Z : SizesOut c d l g) (S1 : SizeOf a A) (S2 : SizeOf b E) (hA : A < l) (hE : E < l) : RemCall a b c d a b true w := by
 unfold RemCall
 go_enter Try.func97, Try.ntmps97
 go_wp2_with fail
 have KI : Keeps (w.heap.size) [(w.heap.size, 0, .int .i64 a), (w.heap.size, 1, .int .i64 b), (w.heap.size + 1, 0, .int .i64 c), (w.heap.size + 1, 1, .int .i64 d)] [(w.heap.size + 1 + 1, 0), (w.heap.size + 1 + 1, 1), (w.heap.size + 1 + 1, 2), (w.heap.size + 1 + 1, 3), (w.heap.size + 1 + 1, 4)] w (((w.alloc (.cells #[.int .i64 a, .int .i64 b] 23)).alloc (.cells #[.int .i64 c, .int .i64 d] 23)).alloc (.cells #[.int .i64 0, .int .i64 0, .bool false, .bool false, .bool false] 37)) := by
   refine ⟨?_, ?_, ?_, ?_, by simp; try omega, (((Below.refl _ _).alloc (Nat.le_refl _) _).alloc (by simp) _).alloc (by simp; omega) _⟩
   · simp only [fm, nm, false_imp_iff, implies_true, and_true]
     exact ⟨by go_simp, by go_simp, by go_simp, by go_simp⟩
   · simp only [fm, nm, false_imp_iff, implies_true, and_true]
     exact ⟨valAt_some (by go_simp), valAt_some (by go_simp), valAt_some (by go_simp), valAt_some (by go_simp), valAt_some (by go_simp)⟩
   · simp only [fm, nm, false_imp_iff, implies_true, and_true]
     exact ⟨by go_simp, by go_simp, by go_simp, by go_simp, by go_simp⟩
   · simp only [fm, nm, false_imp_iff, implies_true, and_true]
     exact ⟨by simp; try omega, by simp; try omega, by simp; try omega, by simp; try omega, by simp; try omega⟩
 have KI := Lib.hid KI
 generalize (((w.alloc (.cells #[.int .i64 a, .int .i64 b] 23)).alloc (.cells #[.int .i64 c, .int .i64 d] 23)).alloc (.cells #[.int .i64 0, .int .i64 0, .bool false, .bool false, .bool false] 37)) = W at *
 have D := Lib.hid D
 have Z := Lib.hid Z
 have S1 := Lib.hid S1
 have S2 := Lib.hid S2
 refine (D.out _).out.mono ?_
 rintro e w1 ⟨v, rfl, hown, hB⟩
 have K1 := Lib.hid (KI.out.later hB)
 obtain ⟨o, cp, rfl, hcp, hform⟩ := owns_form hown
 have hz : ((L.length : Int) == 0) = false := beq_eq_false_iff_ne.2 (by omega)
 clear hown hform hB hcp KI
 have k0 : w1.cell? ⟨w.heap.size, 0, none⟩ = some (.int .i64 a) := (K1.out).fixed (w.heap.size, 0, .int .i64 a) (by simp)
 have k1 : w1.cell? ⟨w.heap.size, 1, none⟩ = some (.int .i64 b) := (K1.out).fixed (w.heap.size, 1, .int .i64 b) (by simp)
 have k2 : w1.cell? ⟨w.heap.size + 1, 0, none⟩ = some (.int .i64 c) := (K1.out).fixed (w.heap.size + 1, 0, .int .i64 c) (by simp)
 have k3 : w1.cell? ⟨w.heap.size + 1, 1, none⟩ = some (.int .i64 d) := (K1.out).fixed (w.heap.size + 1, 1, .int .i64 d) (by simp)
 have v0 : w1.cell? ⟨w.heap.size + 1 + 1, 0, none⟩ = some (valAt w1 ⟨w.heap.size + 1 + 1, 0, none⟩) := (K1.out).there (w.heap.size + 1 + 1, 0) (by simp)
 have f0 : w1.frozen? ⟨w.heap.size + 1 + 1, 0, none⟩ = false := (K1.out).froz (w.heap.size + 1 + 1, 0) (by simp)
 have v1 : w1.cell? ⟨w.heap.size + 1 + 1, 1, none⟩ = some (valAt w1 ⟨w.heap.size + 1 + 1, 1, none⟩) := (K1.out).there (w.heap.size + 1 + 1, 1) (by simp)
 have f1 : w1.frozen? ⟨w.heap.size + 1 + 1, 1, none⟩ = false := (K1.out).froz (w.heap.size + 1 + 1, 1) (by simp)
 have v2 : w1.cell? ⟨w.heap.size + 1 + 1, 2, none⟩ = some (valAt w1 ⟨w.heap.size + 1 + 1, 2, none⟩) := (K1.out).there (w.heap.size + 1 + 1, 2) (by simp)
 have f2 : w1.frozen? ⟨w.heap.size + 1 + 1, 2, none⟩ = false := (K1.out).froz (w.heap.size + 1 + 1, 2) (by simp)
 have v3 : w1.cell? ⟨w.heap.size + 1 + 1, 3, none⟩ = some (valAt w1 ⟨w.heap.size + 1 + 1, 3, none⟩) := (K1.out).there (w.heap.size + 1 + 1, 3) (by simp)
 have f3 : w1.frozen? ⟨w.heap.size + 1 + 1, 3, none⟩ = false := (K1.out).froz (w.heap.size + 1 + 1, 3) (by simp)
 have v4 : w1.cell? ⟨w.heap.size + 1 + 1, 4, none⟩ = some (valAt w1 ⟨w.heap.size + 1 + 1, 4, none⟩) := (K1.out).there (w.heap.size + 1 + 1, 4) (by simp)
 have f4 : w1.frozen? ⟨w.heap.size + 1 + 1, 4, none⟩ = false := (K1.out).froz (w.heap.size + 1 + 1, 4) (by simp)
 have z0 : w.heap.size + 1 + 1 < w1.heap.size := (K1.out).lt (w.heap.size + 1 + 1, 0) (by simp)
 go_wp2_with fail
 refine (Z.out _).out.mono ?_
 clear hz k0 k1 k2 k3 v0 f0 v1 f1 v2 f2 v3 f3 v4 f4 z0
 rintro e w2 ⟨rfl, hB⟩
 have K2 := Lib.hid (K1.out.later hB)
 clear hB K1
 go_upto_region 4 with fail
 go_cut [28] (fun s wx => s = .bool true ∧ Keeps (w.heap.size) [(w.heap.size, 0, .int .i64 a), (w.heap.size, 1, .int .i64 b), (w.heap.size + 1, 0, .int .i64 c), (w.heap.size + 1, 1, .int .i64 d)] [(w.heap.size + 1 + 1, 0), (w.heap.size + 1 + 1, 1), (w.heap.size + 1 + 1, 2), (w.heap.size + 1 + 1, 3), (w.heap.size + 1 + 1, 4)] w wx)
 case first =>
   have ID := K2.out.later (Below.refl _ _).drew
   clear K2
   rcases Int.lt_trichotomy A E with hc | hc | hc
   · have hc0 := hc
     refine wp_region_held_drew (S := fun w' => w'.cell? ⟨w.heap.size, 0, none⟩ = some (.int .i64 a) ∧ w'.cell? ⟨w.heap.size, 1, none⟩ = some (.int .i64 b) ∧ w'.cell? ⟨w.heap.size + 1, 0, none⟩ = some (.int .i64 c) ∧ w'.cell? ⟨w.heap.size + 1, 1, none⟩ = some (.int .i64 d) ∧ w'.cell? ⟨w.heap.size + 1 + 1, 0, none⟩ = some (valAt w' ⟨w.heap.size + 1 + 1, 0, none⟩) ∧ w'.cell? ⟨w.heap.size + 1 + 1, 1, none⟩ = some (valAt w' ⟨w.heap.size + 1 + 1, 1, none⟩) ∧ w'.cell? ⟨w.heap.size + 1 + 1, 2, none⟩ = some (valAt w' ⟨w.heap.size + 1 + 1, 2, none⟩) ∧ w'.cell? ⟨w.heap.size + 1 + 1, 3, none⟩ = some (valAt w' ⟨w.heap.size + 1 + 1, 3, none⟩) ∧ w'.cell? ⟨w.heap.size + 1 + 1, 4, none⟩ = some (valAt w' ⟨w.heap.size + 1 + 1, 4, none⟩) ∧ w'.frozen? ⟨w.heap.size + 1 + 1, 0, none⟩ = false ∧ w'.frozen? ⟨w.heap.size + 1 + 1, 1, none⟩ = false ∧ w'.frozen? ⟨w.heap.size + 1 + 1, 2, none⟩ = false ∧ w'.frozen? ⟨w.heap.size + 1 + 1, 3, none⟩ = false ∧ w'.frozen? ⟨w.heap.size + 1 + 1, 4, none⟩ = false ∧ w.heap.size + 1 + 1 < w'.heap.size ∧ Keeps (w.heap.size) [(w.heap.size, 0, .int .i64 a), (w.heap.size, 1, .int .i64 b), (w.heap.size + 1, 0, .int .i64 c), (w.heap.size + 1, 1, .int .i64 d)] [(w.heap.size + 1 + 1, 0), (w.heap.size + 1 + 1, 1), (w.heap.size + 1 + 1, 2), (w.heap.size + 1 + 1, 3), (w.heap.size + 1 + 1, 4)] w w') (by kernel_rfl) ⟨(ID).fixed (w.heap.size, 0, .int .i64 a) (by simp), (ID).fixed (w.heap.size, 1, .int .i64 b) (by simp), (ID).fixed (w.heap.size + 1, 0, .int .i64 c) (by simp), (ID).fixed (w.heap.size + 1, 1, .int .i64 d) (by simp), (ID).there (w.heap.size + 1 + 1, 0) (by simp), (ID).there (w.heap.size + 1 + 1, 1) (by simp), (ID).there (w.heap.size + 1 + 1, 2) (by simp), (ID).there (w.heap.size + 1 + 1, 3) (by simp), (ID).there (w.heap.size + 1 + 1, 4) (by simp), (ID).froz (w.heap.size + 1 + 1, 0) (by simp), (ID).froz (w.heap.size + 1 + 1, 1) (by simp), (ID).froz (w.heap.size + 1 + 1, 2) (by simp), (ID).froz (w.heap.size + 1 + 1, 3) (by simp), (ID).froz (w.heap.size + 1 + 1, 4) (by simp), (ID).lt (w.heap.size + 1 + 1, 0) (by simp), ID⟩ (fun hHeld => ?_)
     refine tk (i := 0) (v := ?_) rfl (by kernel_rfl) (by kernel_rfl) (by kernel_rfl) (fun _ _ _ h => h) (Or.inl ⟨by rfl, ?_⟩) (by assumption) ?_
     rotate_left
     focus (intro w' hSw; (try dsimp only at hSw); go_simp; try with_reducible rfl)
     try simp only [Act.put, p1, p2, p3, p4, p5, p6]
     refine tk (i := 1) (v := ?_) rfl (by kernel_rfl) (by kernel_rfl) (by kernel_rfl) (fun _ _ _ h => h) (Or.inl ⟨by rfl, ?_⟩) (by assumption) ?_
     rotate_left
     focus (intro w' hSw; (try dsimp only at hSw); go_simp; try with_reducible rfl)
     try simp only [Act.put, p1, p2, p3, p4, p5, p6]
     refine tk (i := 3) (v := ?_) rfl (by kernel_rfl) (by kernel_rfl) (by kernel_rfl) (fun _ _ _ h => h) (Or.inl ⟨by rfl, ?_⟩) (by assumption) ?_
     rotate_left
     focus (intro w' hSw; (try dsimp only at hSw); go_simp; try with_reducible rfl)
     try simp only [Act.put, p1, p2, p3, p4, p5, p6]
     refine tk (i := 4) (v := ?_) rfl (by kernel_rfl) (by kernel_rfl) (by kernel_rfl) (fun _ _ _ h => h) (Or.inl ⟨by rfl, ?_⟩) (by assumption) ?_
     rotate_left
     focus (intro w' hSw; (try dsimp only at hSw); go_simp; try with_reducible rfl)
     try simp only [Act.put, p1, p2, p3, p4, p5, p6]
     refine tk (i := 7) (v := ?_) rfl (by kernel_rfl) (by kernel_rfl) (by kernel_rfl) (fun _ _ _ h => h) (Or.inl ⟨by rfl, ?_⟩) (by assumption) ?_
     rotate_left
     focus (intro w' hSw; (try dsimp only at hSw); go_simp; try with_reducible rfl)
     try simp only [Act.put, p1, p2, p3, p4, p5, p6]
     refine rd (rs := [2]) (by kernel_rfl) (by simp) ?_
     refine AllReadyH.cons rfl (fun K hK => ?_) AllReadyH.nil
     go_simp
     go_at_call 117
     refine ((S1.out _).out).mono ?_
     rintro eq1 wq1 ⟨rfl, rfl⟩
     go_wp2_with fail
     refine hK.out _ _ ⟨(ID).fixed (w.heap.size, 0, .int .i64 a) (by simp), (ID).fixed (w.heap.size, 1, .int .i64 b) (by simp), (ID).fixed (w.heap.size + 1, 0, .int .i64 c) (by simp), (ID).fixed (w.heap.size + 1, 1, .int .i64 d) (by simp), (ID).there (w.heap.size + 1 + 1, 0) (by simp), (ID).there (w.heap.size + 1 + 1, 1) (by simp), (ID).there (w.heap.size + 1 + 1, 2) (by simp), (ID).there (w.heap.size + 1 + 1, 3) (by simp), (ID).there (w.heap.size + 1 + 1, 4) (by simp), (ID).froz (w.heap.size + 1 + 1, 0) (by simp), (ID).froz (w.heap.size + 1 + 1, 1) (by simp), (ID).froz (w.heap.size + 1 + 1, 2) (by simp), (ID).froz (w.heap.size + 1 + 1, 3) (by simp), (ID).froz (w.heap.size + 1 + 1, 4) (by simp), (ID).lt (w.heap.size + 1 + 1, 0) (by simp), ID⟩ (fun hHeld => ?_)
     clear hK K
     try simp only [Act.put, p1, p2, p3, p4, p5, p6]
     refine rd (rs := [5]) (by kernel_rfl) (by simp) ?_
     refine AllReadyH.cons rfl (fun K hK => ?_) AllReadyH.nil
     go_simp
     go_at_call 117
     refine ((S2.out _).out).mono ?_
     rintro eq2 wq2 ⟨rfl, rfl⟩
     go_wp2_with fail
     refine hK.out _ _ ⟨(ID).fixed (w.heap.size, 0, .int .i64 a) (by simp), (ID).fixed (w.heap.size, 1, .int .i64 b) (by simp), (ID).fixed (w.heap.size + 1, 0, .int .i64 c) (by simp), (ID).fixed (w.heap.size + 1, 1, .int .i64 d) (by simp), (ID).there (w.heap.size + 1 + 1, 0) (by simp), (ID).there (w.heap.size + 1 + 1, 1) (by simp), (ID).there (w.heap.size + 1 + 1, 2) (by simp), (ID).there (w.heap.size + 1 + 1, 3) (by simp), (ID).there (w.heap.size + 1 + 1, 4) (by simp), (ID).froz (w.heap.size + 1 + 1, 0) (by simp), (ID).froz (w.heap.size + 1 + 1, 1) (by simp), (ID).froz (w.heap.size + 1 + 1, 2) (by simp), (ID).froz (w.heap.size + 1 + 1, 3) (by simp), (ID).froz (w.heap.size + 1 + 1, 4) (by simp), (ID).lt (w.heap.size + 1 + 1, 0) (by simp), ID⟩ (fun hHeld => ?_)
     clear hK K
     try simp only [Act.put, p1, p2, p3, p4, p5, p6]
     refine tk (i := 6) (v := ?_) rfl (by kernel_rfl) (by kernel_rfl) (by kernel_rfl) (fun _ _ _ h => h) (Or.inl ⟨by rfl, ?_⟩) (by assumption) ?_
     rotate_left
     focus (intro w' hSw; (try dsimp only at hSw); go_simp; try with_reducible rfl)
     try simp only [Act.put, p1, p2, p3, p4, p5, p6]
     refine tk (i := 8) (v := ?_) rfl (by kernel_rfl) (by kernel_rfl) (by kernel_rfl) (fun _ _ _ h => h) (Or.inl ⟨by rfl, ?_⟩) (by assumption) ?_
     rotate_left
     focus (intro w' hSw; (try dsimp only at hSw); go_simp; try with_reducible rfl)
     try simp only [Act.put, p1, p2, p3, p4, p5, p6]
     refine wpAnyH_done (by kernel_rfl) ?_ _
     go_wp2_with fail
     go_meet
     exact ⟨by first | rfl | simp, ID⟩
   · subst hc
     refine wp_region_held_drew (S := fun w' => w'.cell? ⟨w.heap.size, 0, none⟩ = some (.int .i64 a) ∧ w'.cell? ⟨w.heap.size, 1, none⟩ = some (.int .i64 b) ∧ w'.cell? ⟨w.heap.size + 1, 0, none⟩ = some (.int .i64 c) ∧ w'.cell? ⟨w.heap.size + 1, 1, none⟩ = some (.int .i64 d) ∧ w'.cell? ⟨w.heap.size + 1 + 1, 0, none⟩ = some (valAt w' ⟨w.heap.size + 1 + 1, 0, none⟩) ∧ w'.cell? ⟨w.heap.size + 1 + 1, 1, none⟩ = some (valAt w' ⟨w.heap.size + 1 + 1, 1, none⟩) ∧ w'.cell? ⟨w.heap.size + 1 + 1, 2, none⟩ = some (valAt w' ⟨w.heap.size + 1 + 1, 2, none⟩) ∧ w'.cell? ⟨w.heap.size + 1 + 1, 3, none⟩ = some (valAt w' ⟨w.heap.size + 1 + 1, 3, none⟩) ∧ w'.cell? ⟨w.heap.size + 1 + 1, 4, none⟩ = some (valAt w' ⟨w.heap.size + 1 + 1, 4, none⟩) ∧ w'.frozen? ⟨w.heap.size + 1 + 1, 0, none⟩ = false ∧ w'.frozen? ⟨w.heap.size + 1 + 1, 1, none⟩ = false ∧ w'.frozen? ⟨w.heap.size + 1 + 1, 2, none⟩ = false ∧ w'.frozen? ⟨w.heap.size + 1 + 1, 3, none⟩ = false ∧ w'.frozen? ⟨w.heap.size + 1 + 1, 4, none⟩ = false ∧ w.heap.size + 1 + 1 < w'.heap.size ∧ Keeps (w.heap.size) [(w.heap.size, 0, .int .i64 a), (w.heap.size, 1, .int .i64 b), (w.heap.size + 1, 0, .int .i64 c), (w.heap.size + 1, 1, .int .i64 d)] [(w.heap.size + 1 + 1, 0), (w.heap.size + 1 + 1, 1), (w.heap.size + 1 + 1, 2), (w.heap.size + 1 + 1, 3), (w.heap.size + 1 + 1, 4)] w w') (by kernel_rfl) ⟨(ID).fixed (w.heap.size, 0, .int .i64 a) (by simp), (ID).fixed (w.heap.size, 1, .int .i64 b) (by simp), (ID).fixed (w.heap.size + 1, 0, .int .i64 c) (by simp), (ID).fixed (w.heap.size + 1, 1, .int .i64 d) (by simp), (ID).there (w.heap.size + 1 + 1, 0) (by simp), (ID).there (w.heap.size + 1 + 1, 1) (by simp), (ID).there (w.heap.size + 1 + 1, 2) (by simp), (ID).there (w.heap.size + 1 + 1, 3) (by simp), (ID).there (w.heap.size + 1 + 1, 4) (by simp), (ID).froz (w.heap.size + 1 + 1, 0) (by simp), (ID).froz (w.heap.size + 1 + 1, 1) (by simp), (ID).froz (w.heap.size + 1 + 1, 2) (by simp), (ID).froz (w.heap.size + 1 + 1, 3) (by simp), (ID).froz (w.heap.size + 1 + 1, 4) (by simp), (ID).lt (w.heap.size + 1 + 1, 0) (by simp), ID⟩ (fun hHeld => ?_)
     refine tk (i := 0) (v := ?_) rfl (by kernel_rfl) (by kernel_rfl) (by kernel_rfl) (fun _ _ _ h => h) (Or.inl ⟨by rfl, ?_⟩) (by assumption) ?_
     rotate_left
     focus (intro w' hSw; (try dsimp only at hSw); go_simp; try with_reducible rfl)
     try simp only [Act.put, p1, p2, p3, p4, p5, p6]
     refine tk (i := 1) (v := ?_) rfl (by kernel_rfl) (by kernel_rfl) (by kernel_rfl) (fun _ _ _ h => h) (Or.inl ⟨by rfl, ?_⟩) (by assumption) ?_
     rotate_left
     focus (intro w' hSw; (try dsimp only at hSw); go_simp; try with_reducible rfl)
     try simp only [Act.put, p1, p2, p3, p4, p5, p6]
     refine tk (i := 3) (v := ?_) rfl (by kernel_rfl) (by kernel_rfl) (by kernel_rfl) (fun _ _ _ h => h) (Or.inl ⟨by rfl, ?_⟩) (by assumption) ?_
     rotate_left
     focus (intro w' hSw; (try dsimp only at hSw); go_simp; try with_reducible rfl)
     try simp only [Act.put, p1, p2, p3, p4, p5, p6]
     refine tk (i := 4) (v := ?_) rfl (by kernel_rfl) (by kernel_rfl) (by kernel_rfl) (fun _ _ _ h => h) (Or.inl ⟨by rfl, ?_⟩) (by assumption) ?_
     rotate_left
     focus (intro w' hSw; (try dsimp only at hSw); go_simp; try with_reducible rfl)
     try simp only [Act.put, p1, p2, p3, p4, p5, p6]
     refine tk (i := 7) (v := ?_) rfl (by kernel_rfl) (by kernel_rfl) (by kernel_rfl) (fun _ _ _ h => h) (Or.inl ⟨by rfl, ?_⟩) (by assumption) ?_
     rotate_left
     focus (intro w' hSw; (try dsimp only at hSw); go_simp; try with_reducible rfl)
     try simp only [Act.put, p1, p2, p3, p4, p5, p6]
     refine rd (rs := [2]) (by kernel_rfl) (by simp) ?_
     refine AllReadyH.cons rfl (fun K hK => ?_) AllReadyH.nil
     go_simp
     go_at_call 117
     refine ((S1.out _).out).mono ?_
     rintro eq1 wq1 ⟨rfl, rfl⟩
     go_wp2_with fail
     refine hK.out _ _ ⟨(ID).fixed (w.heap.size, 0, .int .i64 a) (by simp), (ID).fixed (w.heap.size, 1, .int .i64 b) (by simp), (ID).fixed (w.heap.size + 1, 0, .int .i64 c) (by simp), (ID).fixed (w.heap.size + 1, 1, .int .i64 d) (by simp), (ID).there (w.heap.size + 1 + 1, 0) (by simp), (ID).there (w.heap.size + 1 + 1, 1) (by simp), (ID).there (w.heap.size + 1 + 1, 2) (by simp), (ID).there (w.heap.size + 1 + 1, 3) (by simp), (ID).there (w.heap.size + 1 + 1, 4) (by simp), (ID).froz (w.heap.size + 1 + 1, 0) (by simp), (ID).froz (w.heap.size + 1 + 1, 1) (by simp), (ID).froz (w.heap.size + 1 + 1, 2) (by simp), (ID).froz (w.heap.size + 1 + 1, 3) (by simp), (ID).froz (w.heap.size + 1 + 1, 4) (by simp), (ID).lt (w.heap.size + 1 + 1, 0) (by simp), ID⟩ (fun hHeld => ?_)
     clear hK K
     try simp only [Act.put, p1, p2, p3, p4, p5, p6]
     refine rd (rs := [5]) (by kernel_rfl) (by simp) ?_
     refine AllReadyH.cons rfl (fun K hK => ?_) AllReadyH.nil
     go_simp
     go_at_call 117
     refine ((S2.out _).out).mono ?_
     rintro eq2 wq2 ⟨rfl, rfl⟩
     go_wp2_with fail
     refine hK.out _ _ ⟨(ID).fixed (w.heap.size, 0, .int .i64 a) (by simp), (ID).fixed (w.heap.size, 1, .int .i64 b) (by simp), (ID).fixed (w.heap.size + 1, 0, .int .i64 c) (by simp), (ID).fixed (w.heap.size + 1, 1, .int .i64 d) (by simp), (ID).there (w.heap.size + 1 + 1, 0) (by simp), (ID).there (w.heap.size + 1 + 1, 1) (by simp), (ID).there (w.heap.size + 1 + 1, 2) (by simp), (ID).there (w.heap.size + 1 + 1, 3) (by simp), (ID).there (w.heap.size + 1 + 1, 4) (by simp), (ID).froz (w.heap.size + 1 + 1, 0) (by simp), (ID).froz (w.heap.size + 1 + 1, 1) (by simp), (ID).froz (w.heap.size + 1 + 1, 2) (by simp), (ID).froz (w.heap.size + 1 + 1, 3) (by simp), (ID).froz (w.heap.size + 1 + 1, 4) (by simp), (ID).lt (w.heap.size + 1 + 1, 0) (by simp), ID⟩ (fun hHeld => ?_)
     clear hK K
     try simp only [Act.put, p1, p2, p3, p4, p5, p6]
     refine tk (i := 6) (v := ?_) rfl (by kernel_rfl) (by kernel_rfl) (by kernel_rfl) (fun _ _ _ h => h) (Or.inl ⟨by rfl, ?_⟩) (by assumption) ?_
     rotate_left
     focus (intro w' hSw; (try dsimp only at hSw); go_simp; try with_reducible rfl)
     try simp only [Act.put, p1, p2, p3, p4, p5, p6]
     refine tk (i := 8) (v := ?_) rfl (by kernel_rfl) (by kernel_rfl) (by kernel_rfl) (fun _ _ _ h => h) (Or.inl ⟨by rfl, ?_⟩) (by assumption) ?_
     rotate_left
     focus (intro w' hSw; (try dsimp only at hSw); go_simp; try with_reducible rfl)
     try simp only [Act.put, p1, p2, p3, p4, p5, p6]
     refine wpAnyH_done (by kernel_rfl) ?_ _
     go_wp2_with fail
     go_meet
     exact ⟨by first | rfl | simp, ID⟩
   · have hc0 := hc
     refine wp_region_held_drew (S := fun w' => w'.cell? ⟨w.heap.size, 0, none⟩ = some (.int .i64 a) ∧ w'.cell? ⟨w.heap.size, 1, none⟩ = some (.int .i64 b) ∧ w'.cell? ⟨w.heap.size + 1, 0, none⟩ = some (.int .i64 c) ∧ w'.cell? ⟨w.heap.size + 1, 1, none⟩ = some (.int .i64 d) ∧ w'.cell? ⟨w.heap.size + 1 + 1, 0, none⟩ = some (valAt w' ⟨w.heap.size + 1 + 1, 0, none⟩) ∧ w'.cell? ⟨w.heap.size + 1 + 1, 1, none⟩ = some (valAt w' ⟨w.heap.size + 1 + 1, 1, none⟩) ∧ w'.cell? ⟨w.heap.size + 1 + 1, 2, none⟩ = some (valAt w' ⟨w.heap.size + 1 + 1, 2, none⟩) ∧ w'.cell? ⟨w.heap.size + 1 + 1, 3, none⟩ = some (valAt w' ⟨w.heap.size + 1 + 1, 3, none⟩) ∧ w'.cell? ⟨w.heap.size + 1 + 1, 4, none⟩ = some (valAt w' ⟨w.heap.size + 1 + 1, 4, none⟩) ∧ w'.frozen? ⟨w.heap.size + 1 + 1, 0, none⟩ = false ∧ w'.frozen? ⟨w.heap.size + 1 + 1, 1, none⟩ = false ∧ w'.frozen? ⟨w.heap.size + 1 + 1, 2, none⟩ = false ∧ w'.frozen? ⟨w.heap.size + 1 + 1, 3, none⟩ = false ∧ w'.frozen? ⟨w.heap.size + 1 + 1, 4, none⟩ = false ∧ w.heap.size + 1 + 1 < w'.heap.size ∧ Keeps (w.heap.size) [(w.heap.size, 0, .int .i64 a), (w.heap.size, 1, .int .i64 b), (w.heap.size + 1, 0, .int .i64 c), (w.heap.size + 1, 1, .int .i64 d)] [(w.heap.size + 1 + 1, 0), (w.heap.size + 1 + 1, 1), (w.heap.size + 1 + 1, 2), (w.heap.size + 1 + 1, 3), (w.heap.size + 1 + 1, 4)] w w') (by kernel_rfl) ⟨(ID).fixed (w.heap.size, 0, .int .i64 a) (by simp), (ID).fixed (w.heap.size, 1, .int .i64 b) (by simp), (ID).fixed (w.heap.size + 1, 0, .int .i64 c) (by simp), (ID).fixed (w.heap.size + 1, 1, .int .i64 d) (by simp), (ID).there (w.heap.size + 1 + 1, 0) (by simp), (ID).there (w.heap.size + 1 + 1, 1) (by simp), (ID).there (w.heap.size + 1 + 1, 2) (by simp), (ID).there (w.heap.size + 1 + 1, 3) (by simp), (ID).there (w.heap.size + 1 + 1, 4) (by simp), (ID).froz (w.heap.size + 1 + 1, 0) (by simp), (ID).froz (w.heap.size + 1 + 1, 1) (by simp), (ID).froz (w.heap.size + 1 + 1, 2) (by simp), (ID).froz (w.heap.size + 1 + 1, 3) (by simp), (ID).froz (w.heap.size + 1 + 1, 4) (by simp), (ID).lt (w.heap.size + 1 + 1, 0) (by simp), ID⟩ (fun hHeld => ?_)
     refine tk (i := 0) (v := ?_) rfl (by kernel_rfl) (by kernel_rfl) (by kernel_rfl) (fun _ _ _ h => h) (Or.inl ⟨by rfl, ?_⟩) (by assumption) ?_
     rotate_left
     focus (intro w' hSw; (try dsimp only at hSw); go_simp; try with_reducible rfl)
     try simp only [Act.put, p1, p2, p3, p4, p5, p6]
     refine tk (i := 1) (v := ?_) rfl (by kernel_rfl) (by kernel_rfl) (by kernel_rfl) (fun _ _ _ h => h) (Or.inl ⟨by rfl, ?_⟩) (by assumption) ?_
     rotate_left
     focus (intro w' hSw; (try dsimp only at hSw); go_simp; try with_reducible rfl)
     try simp only [Act.put, p1, p2, p3, p4, p5, p6]
     refine tk (i := 3) (v := ?_) rfl (by kernel_rfl) (by kernel_rfl) (by kernel_rfl) (fun _ _ _ h => h) (Or.inl ⟨by rfl, ?_⟩) (by assumption) ?_
     rotate_left
     focus (intro w' hSw; (try dsimp only at hSw); go_simp; try with_reducible rfl)
     try simp only [Act.put, p1, p2, p3, p4, p5, p6]
     refine tk (i := 4) (v := ?_) rfl (by kernel_rfl) (by kernel_rfl) (by kernel_rfl) (fun _ _ _ h => h) (Or.inl ⟨by rfl, ?_⟩) (by assumption) ?_
     rotate_left
     focus (intro w' hSw; (try dsimp only at hSw); go_simp; try with_reducible rfl)
     try simp only [Act.put, p1, p2, p3, p4, p5, p6]
     refine tk (i := 7) (v := ?_) rfl (by kernel_rfl) (by kernel_rfl) (by kernel_rfl) (fun _ _ _ h => h) (Or.inl ⟨by rfl, ?_⟩) (by assumption) ?_
     rotate_left
     focus (intro w' hSw; (try dsimp only at hSw); go_simp; try with_reducible rfl)
     try simp only [Act.put, p1, p2, p3, p4, p5, p6]
     refine rd (rs := [2]) (by kernel_rfl) (by simp) ?_
     refine AllReadyH.cons rfl (fun K hK => ?_) AllReadyH.nil
     go_simp
     go_at_call 117
     refine ((S1.out _).out).mono ?_
     rintro eq1 wq1 ⟨rfl, rfl⟩
     go_wp2_with fail
     refine hK.out _ _ ⟨(ID).fixed (w.heap.size, 0, .int .i64 a) (by simp), (ID).fixed (w.heap.size, 1, .int .i64 b) (by simp), (ID).fixed (w.heap.size + 1, 0, .int .i64 c) (by simp), (ID).fixed (w.heap.size + 1, 1, .int .i64 d) (by simp), (ID).there (w.heap.size + 1 + 1, 0) (by simp), (ID).there (w.heap.size + 1 + 1, 1) (by simp), (ID).there (w.heap.size + 1 + 1, 2) (by simp), (ID).there (w.heap.size + 1 + 1, 3) (by simp), (ID).there (w.heap.size + 1 + 1, 4) (by simp), (ID).froz (w.heap.size + 1 + 1, 0) (by simp), (ID).froz (w.heap.size + 1 + 1, 1) (by simp), (ID).froz (w.heap.size + 1 + 1, 2) (by simp), (ID).froz (w.heap.size + 1 + 1, 3) (by simp), (ID).froz (w.heap.size + 1 + 1, 4) (by simp), (ID).lt (w.heap.size + 1 + 1, 0) (by simp), ID⟩ (fun hHeld => ?_)
     clear hK K
     try simp only [Act.put, p1, p2, p3, p4, p5, p6]
     refine rd (rs := [5]) (by kernel_rfl) (by simp) ?_
     refine AllReadyH.cons rfl (fun K hK => ?_) AllReadyH.nil
     go_simp
     go_at_call 117
     refine ((S2.out _).out).mono ?_
     rintro eq2 wq2 ⟨rfl, rfl⟩
     go_wp2_with fail
     refine hK.out _ _ ⟨(ID).fixed (w.heap.size, 0, .int .i64 a) (by simp), (ID).fixed (w.heap.size, 1, .int .i64 b) (by simp), (ID).fixed (w.heap.size + 1, 0, .int .i64 c) (by simp), (ID).fixed (w.heap.size + 1, 1, .int .i64 d) (by simp), (ID).there (w.heap.size + 1 + 1, 0) (by simp), (ID).there (w.heap.size + 1 + 1, 1) (by simp), (ID).there (w.heap.size + 1 + 1, 2) (by simp), (ID).there (w.heap.size + 1 + 1, 3) (by simp), (ID).there (w.heap.size + 1 + 1, 4) (by simp), (ID).froz (w.heap.size + 1 + 1, 0) (by simp), (ID).froz (w.heap.size + 1 + 1, 1) (by simp), (ID).froz (w.heap.size + 1 + 1, 2) (by simp), (ID).froz (w.heap.size + 1 + 1, 3) (by simp), (ID).froz (w.heap.size + 1 + 1, 4) (by simp), (ID).lt (w.heap.size + 1 + 1, 0) (by simp), ID⟩ (fun hHeld => ?_)
     clear hK K
     try simp only [Act.put, p1, p2, p3, p4, p5, p6]
     refine tk (i := 6) (v := ?_) rfl (by kernel_rfl) (by kernel_rfl) (by kernel_rfl) (fun _ _ _ h => h) (Or.inl ⟨by rfl, ?_⟩) (by assumption) ?_
     rotate_left
     focus (intro w' hSw; (try dsimp only at hSw); go_simp; try with_reducible rfl)
     try simp only [Act.put, p1, p2, p3, p4, p5, p6]
     refine tk (i := 8) (v := ?_) rfl (by kernel_rfl) (by kernel_rfl) (by kernel_rfl) (fun _ _ _ h => h) (Or.inl ⟨by rfl, ?_⟩) (by assumption) ?_
     rotate_left
     focus (intro w' hSw; (try dsimp only at hSw); go_simp; try with_reducible rfl)
     try simp only [Act.put, p1, p2, p3, p4, p5, p6]
     refine wpAnyH_done (by kernel_rfl) ?_ _
     go_wp2_with fail
     go_meet
     exact ⟨by first | rfl | simp, ID⟩
 case rest =>
   obtain ⟨rfl, K3⟩ := hcut
   clear K2 D Z S1 S2
   have K3 := Lib.hid K3
   have k0 : wc.cell? ⟨w.heap.size, 0, none⟩ = some (.int .i64 a) := (K3.out).fixed (w.heap.size, 0, .int .i64 a) (by simp)
   have k1 : wc.cell? ⟨w.heap.size, 1, none⟩ = some (.int .i64 b) := (K3.out).fixed (w.heap.size, 1, .int .i64 b) (by simp)
   have k2 : wc.cell? ⟨w.heap.size + 1, 0, none⟩ = some (.int .i64 c) := (K3.out).fixed (w.heap.size + 1, 0, .int .i64 c) (by simp)
   have k3 : wc.cell? ⟨w.heap.size + 1, 1, none⟩ = some (.int .i64 d) := (K3.out).fixed (w.heap.size + 1, 1, .int .i64 d) (by simp)
   have v0 : wc.cell? ⟨w.heap.size + 1 + 1, 0, none⟩ = some (valAt wc ⟨w.heap.size + 1 + 1, 0, none⟩) := (K3.out).there (w.heap.size + 1 + 1, 0) (by simp)
   have f0 : wc.frozen? ⟨w.heap.size + 1 + 1, 0, none⟩ = false := (K3.out).froz (w.heap.size + 1 + 1, 0) (by simp)
   have v1 : wc.cell? ⟨w.heap.size + 1 + 1, 1, none⟩ = some (valAt wc ⟨w.heap.size + 1 + 1, 1, none⟩) := (K3.out).there (w.heap.size + 1 + 1, 1) (by simp)
   have f1 : wc.frozen? ⟨w.heap.size + 1 + 1, 1, none⟩ = false := (K3.out).froz (w.heap.size + 1 + 1, 1) (by simp)
   have v2 : wc.cell? ⟨w.heap.size + 1 + 1, 2, none⟩ = some (valAt wc ⟨w.heap.size + 1 + 1, 2, none⟩) := (K3.out).there (w.heap.size + 1 + 1, 2) (by simp)
   have f2 : wc.frozen? ⟨w.heap.size + 1 + 1, 2, none⟩ = false := (K3.out).froz (w.heap.size + 1 + 1, 2) (by simp)
   have v3 : wc.cell? ⟨w.heap.size + 1 + 1, 3, none⟩ = some (valAt wc ⟨w.heap.size + 1 + 1, 3, none⟩) := (K3.out).there (w.heap.size + 1 + 1, 3) (by simp)
   have f3 : wc.frozen? ⟨w.heap.size + 1 + 1, 3, none⟩ = false := (K3.out).froz (w.heap.size + 1 + 1, 3) (by simp)
   have v4 : wc.cell? ⟨w.heap.size + 1 + 1, 4, none⟩ = some (valAt wc ⟨w.heap.size + 1 + 1, 4, none⟩) := (K3.out).there (w.heap.size + 1 + 1, 4) (by simp)
   have f4 : wc.frozen? ⟨w.heap.size + 1 + 1, 4, none⟩ = false := (K3.out).froz (w.heap.size + 1 + 1, 4) (by simp)
   have z0 : w.heap.size + 1 + 1 < wc.heap.size := (K3.out).lt (w.heap.size + 1 + 1, 0) (by simp)
   go_wp2_with fail
   refine (psure_any _ _ _).mono ?_
   clear k0 k1 k2 k3 v0 f0 v1 f1 v2 f2 v3 f3 v4 f4 z0
   rintro e w4 ⟨rfl, hB⟩
   have K4 := Lib.hid (K3.out.later hB)
   clear hB K3
   have k0 : w4.cell? ⟨w.heap.size, 0, none⟩ = some (.int .i64 a) := (K4.out).fixed (w.heap.size, 0, .int .i64 a) (by simp)
   have k1 : w4.cell? ⟨w.heap.size, 1, none⟩ = some (.int .i64 b) := (K4.out).fixed (w.heap.size, 1, .int .i64 b) (by simp)
   have k2 : w4.cell? ⟨w.heap.size + 1, 0, none⟩ = some (.int .i64 c) := (K4.out).fixed (w.heap.size + 1, 0, .int .i64 c) (by simp)
   have k3 : w4.cell? ⟨w.heap.size + 1, 1, none⟩ = some (.int .i64 d) := (K4.out).fixed (w.heap.size + 1, 1, .int .i64 d) (by simp)
   have v0 : w4.cell? ⟨w.heap.size + 1 + 1, 0, none⟩ = some (valAt w4 ⟨w.heap.size + 1 + 1, 0, none⟩) := (K4.out).there (w.heap.size + 1 + 1, 0) (by simp)
   have f0 : w4.frozen? ⟨w.heap.size + 1 + 1, 0, none⟩ = false := (K4.out).froz (w.heap.size + 1 + 1, 0) (by simp)
   have v1 : w4.cell? ⟨w.heap.size + 1 + 1, 1, none⟩ = some (valAt w4 ⟨w.heap.size + 1 + 1, 1, none⟩) := (K4.out).there (w.heap.size + 1 + 1, 1) (by simp)
   have f1 : w4.frozen? ⟨w.heap.size + 1 + 1, 1, none⟩ = false := (K4.out).froz (w.heap.size + 1 + 1, 1) (by simp)
   have v2 : w4.cell? ⟨w.heap.size + 1 + 1, 2, none⟩ = some (valAt w4 ⟨w.heap.size + 1 + 1, 2, none⟩) := (K4.out).there (w.heap.size + 1 + 1, 2) (by simp)
   have f2 : w4.frozen? ⟨w.heap.size + 1 + 1, 2, none⟩ = false := (K4.out).froz (w.heap.size + 1 + 1, 2) (by simp)
   have v3 : w4.cell? ⟨w.heap.size + 1 + 1, 3, none⟩ = some (valAt w4 ⟨w.heap.size + 1 + 1, 3, none⟩) := (K4.out).there (w.heap.size + 1 + 1, 3) (by simp)
   have f3 : w4.frozen? ⟨w.heap.size + 1 + 1, 3, none⟩ = false := (K4.out).froz (w.heap.size + 1 + 1, 3) (by simp)
   have v4 : w4.cell? ⟨w.heap.size + 1 + 1, 4, none⟩ = some (valAt w4 ⟨w.heap.size + 1 + 1, 4, none⟩) := (K4.out).there (w.heap.size + 1 + 1, 4) (by simp)
   have f4 : w4.frozen? ⟨w.heap.size + 1 + 1, 4, none⟩ = false := (K4.out).froz (w.heap.size + 1 + 1, 4) (by simp)
   have z0 : w.heap.size + 1 + 1 < w4.heap.size := (K4.out).lt (w.heap.size + 1 + 1, 0) (by simp)
   go_wp2
   refine bodyPost_ret (v := .agg #[.int .i64 a, .int .i64 b, .bool true, .bool false, .bool false]) (by simp [results, Try.results97, go_sem, v0, v1, v2, v3, v4]) rfl ⟨rfl, ?_⟩
   have bl := K4.out.bl
   exact ((((bl.setCell (by simp; omega) _).setCell (by simp; omega) _).setCell (by simp; omega) _).setCell (by simp; omega) _).setCell (by simp; omega) _
theorem prem_big (a b c d l r A E x y : Int) (L : List Pr) (w : World) (h0 : 0 < L.length) (D : DivOut a b c d L) (Z : SizesOut c d l (r + 1)) (S1 : SizeOf a A) (S2 : SizeOf b E) (hAE : l ≤ A ∨ l ≤ E) (r0 : 0 ≤ r) (r1 : r ≤ 9223372036854775807) (hx : Hid (a < 0 ∧ a < -r ∧ -r = x ∨ a < 0 ∧ -r ≤ a ∧ a = x ∨ decide (a < 0) = false ∧ 0 = x)) (hy : Hid (0 < b ∧ b ≤ r ∧ b = y ∨ 0 < b ∧ r < b ∧ r = y ∨ decide (0 < b) = false ∧ 0 = y)) : RemCall a b c d x y true w := by
 unfold RemCall
 go_enter Try.func97, Try.ntmps97
 go_wp2_with fail
 have KI : Keeps (w.heap.size) [(w.heap.size, 0, .int .i64 a), (w.heap.size, 1, .int .i64 b), (w.heap.size + 1, 0, .int .i64 c), (w.heap.size + 1, 1, .int .i64 d)] [(w.heap.size + 1 + 1, 0), (w.heap.size + 1 + 1, 1), (w.heap.size + 1 + 1, 2), (w.heap.size + 1 + 1, 3), (w.heap.size + 1 + 1, 4)] w (((w.alloc (.cells #[.int .i64 a, .int .i64 b] 23)).alloc (.cells #[.int .i64 c, .int .i64 d] 23)).alloc (.cells #[.int .i64 0, .int .i64 0, .bool false, .bool false, .bool false] 37)) := by
   refine ⟨?_, ?_, ?_, ?_, by simp; try omega, (((Below.refl _ _).alloc (Nat.le_refl _) _).alloc (by simp) _).alloc (by simp; omega) _⟩
   · simp only [fm, nm, false_imp_iff, implies_true, and_true]
     exact ⟨by go_simp, by go_simp, by go_simp, by go_simp⟩
   · simp only [fm, nm, false_imp_iff, implies_true, and_true]
     exact ⟨valAt_some (by go_simp), valAt_some (by go_simp), valAt_some (by go_simp), valAt_some (by go_simp), valAt_some (by go_simp)⟩
   · simp only [fm, nm, false_imp_iff, implies_true, and_true]
     exact ⟨by go_simp, by go_simp, by go_simp, by go_simp, by go_simp⟩
   · simp only [fm, nm, false_imp_iff, implies_true, and_true]
     exact ⟨by simp; try omega, by simp; try omega, by simp; try omega, by simp; try omega, by simp; try omega⟩
 have KI := Lib.hid KI
 generalize (((w.alloc (.cells #[.int .i64 a, .int .i64 b] 23)).alloc (.cells #[.int .i64 c, .int .i64 d] 23)).alloc (.cells #[.int .i64 0, .int .i64 0, .bool false, .bool false, .bool false] 37)) = W at *
 have D := Lib.hid D
 have Z := Lib.hid Z
 have S1 := Lib.hid S1
 have S2 := Lib.hid S2
 refine (D.out _).out.mono ?_
 rintro e w1 ⟨v, rfl, hown, hB⟩
 have K1 := Lib.hid (KI.out.later hB)
 obtain ⟨o, cp, rfl, hcp, hform⟩ := owns_form hown
 have hz : ((L.length : Int) == 0) = false := beq_eq_false_iff_ne.2 (by omega)
 clear hown hform hB hcp KI
 have k0 : w1.cell? ⟨w.heap.size, 0, none⟩ = some (.int .i64 a) := (K1.out).fixed (w.heap.size, 0, .int .i64 a) (by simp)
 have k1 : w1.cell? ⟨w.heap.size, 1, none⟩ = some (.int .i64 b) := (K1.out).fixed (w.heap.size, 1, .int .i64 b) (by simp)
 have k2 : w1.cell? ⟨w.heap.size + 1, 0, none⟩ = some (.int .i64 c) := (K1.out).fixed (w.heap.size + 1, 0, .int .i64 c) (by simp)
 have k3 : w1.cell? ⟨w.heap.size + 1, 1, none⟩ = some (.int .i64 d) := (K1.out).fixed (w.heap.size + 1, 1, .int .i64 d) (by simp)
 have v0 : w1.cell? ⟨w.heap.size + 1 + 1, 0, none⟩ = some (valAt w1 ⟨w.heap.size + 1 + 1, 0, none⟩) := (K1.out).there (w.heap.size + 1 + 1, 0) (by simp)
 have f0 : w1.frozen? ⟨w.heap.size + 1 + 1, 0, none⟩ = false := (K1.out).froz (w.heap.size + 1 + 1, 0) (by simp)
 have v1 : w1.cell? ⟨w.heap.size + 1 + 1, 1, none⟩ = some (valAt w1 ⟨w.heap.size + 1 + 1, 1, none⟩) := (K1.out).there (w.heap.size + 1 + 1, 1) (by simp)
 have f1 : w1.frozen? ⟨w.heap.size + 1 + 1, 1, none⟩ = false := (K1.out).froz (w.heap.size + 1 + 1, 1) (by simp)
 have v2 : w1.cell? ⟨w.heap.size + 1 + 1, 2, none⟩ = some (valAt w1 ⟨w.heap.size + 1 + 1, 2, none⟩) := (K1.out).there (w.heap.size + 1 + 1, 2) (by simp)
 have f2 : w1.frozen? ⟨w.heap.size + 1 + 1, 2, none⟩ = false := (K1.out).froz (w.heap.size + 1 + 1, 2) (by simp)
 have v3 : w1.cell? ⟨w.heap.size + 1 + 1, 3, none⟩ = some (valAt w1 ⟨w.heap.size + 1 + 1, 3, none⟩) := (K1.out).there (w.heap.size + 1 + 1, 3) (by simp)
 have f3 : w1.frozen? ⟨w.heap.size + 1 + 1, 3, none⟩ = false := (K1.out).froz (w.heap.size + 1 + 1, 3) (by simp)
 have v4 : w1.cell? ⟨w.heap.size + 1 + 1, 4, none⟩ = some (valAt w1 ⟨w.heap.size + 1 + 1, 4, none⟩) := (K1.out).there (w.heap.size + 1 + 1, 4) (by simp)
 have f4 : w1.frozen? ⟨w.heap.size + 1 + 1, 4, none⟩ = false := (K1.out).froz (w.heap.size + 1 + 1, 4) (by simp)
 have z0 : w.heap.size + 1 + 1 < w1.heap.size := (K1.out).lt (w.heap.size + 1 + 1, 0) (by simp)
 go_wp2_with fail
 refine (Z.out _).out.mono ?_
 clear hz k0 k1 k2 k3 v0 f0 v1 f1 v2 f2 v3 f3 v4 f4 z0
 rintro e w2 ⟨rfl, hB⟩
 have K2 := Lib.hid (K1.out.later hB)
 clear hB K1
 go_upto_region 4 with fail
 go_cut [28] (fun s wx => s = .bool false ∧ Keeps (w.heap.size) [(w.heap.size, 0, .int .i64 a), (w.heap.size, 1, .int .i64 b), (w.heap.size + 1, 0, .int .i64 c), (w.heap.size + 1, 1, .int .i64 d)] [(w.heap.size + 1 + 1, 0), (w.heap.size + 1 + 1, 1), (w.heap.size + 1 + 1, 2), (w.heap.size + 1 + 1, 3), (w.heap.size + 1 + 1, 4)] w wx)
 case first =>
   have ID := K2.out.later (Below.refl _ _).drew
   clear K2 hx hy
   rcases Int.lt_trichotomy A E with hc | hc | hc
   · have hc0 := hc
     have hq : decide (E < l) = false := by simp; omega
     clear hAE
     refine wp_region_held_drew (S := fun w' => w'.cell? ⟨w.heap.size, 0, none⟩ = some (.int .i64 a) ∧ w'.cell? ⟨w.heap.size, 1, none⟩ = some (.int .i64 b) ∧ w'.cell? ⟨w.heap.size + 1, 0, none⟩ = some (.int .i64 c) ∧ w'.cell? ⟨w.heap.size + 1, 1, none⟩ = some (.int .i64 d) ∧ w'.cell? ⟨w.heap.size + 1 + 1, 0, none⟩ = some (valAt w' ⟨w.heap.size + 1 + 1, 0, none⟩) ∧ w'.cell? ⟨w.heap.size + 1 + 1, 1, none⟩ = some (valAt w' ⟨w.heap.size + 1 + 1, 1, none⟩) ∧ w'.cell? ⟨w.heap.size + 1 + 1, 2, none⟩ = some (valAt w' ⟨w.heap.size + 1 + 1, 2, none⟩) ∧ w'.cell? ⟨w.heap.size + 1 + 1, 3, none⟩ = some (valAt w' ⟨w.heap.size + 1 + 1, 3, none⟩) ∧ w'.cell? ⟨w.heap.size + 1 + 1, 4, none⟩ = some (valAt w' ⟨w.heap.size + 1 + 1, 4, none⟩) ∧ w'.frozen? ⟨w.heap.size + 1 + 1, 0, none⟩ = false ∧ w'.frozen? ⟨w.heap.size + 1 + 1, 1, none⟩ = false ∧ w'.frozen? ⟨w.heap.size + 1 + 1, 2, none⟩ = false ∧ w'.frozen? ⟨w.heap.size + 1 + 1, 3, none⟩ = false ∧ w'.frozen? ⟨w.heap.size + 1 + 1, 4, none⟩ = false ∧ w.heap.size + 1 + 1 < w'.heap.size ∧ Keeps (w.heap.size) [(w.heap.size, 0, .int .i64 a), (w.heap.size, 1, .int .i64 b), (w.heap.size + 1, 0, .int .i64 c), (w.heap.size + 1, 1, .int .i64 d)] [(w.heap.size + 1 + 1, 0), (w.heap.size + 1 + 1, 1), (w.heap.size + 1 + 1, 2), (w.heap.size + 1 + 1, 3), (w.heap.size + 1 + 1, 4)] w w') (by kernel_rfl) ⟨(ID).fixed (w.heap.size, 0, .int .i64 a) (by simp), (ID).fixed (w.heap.size, 1, .int .i64 b) (by simp), (ID).fixed (w.heap.size + 1, 0, .int .i64 c) (by simp), (ID).fixed (w.heap.size + 1, 1, .int .i64 d) (by simp), (ID).there (w.heap.size + 1 + 1, 0) (by simp), (ID).there (w.heap.size + 1 + 1, 1) (by simp), (ID).there (w.heap.size + 1 + 1, 2) (by simp), (ID).there (w.heap.size + 1 + 1, 3) (by simp), (ID).there (w.heap.size + 1 + 1, 4) (by simp), (ID).froz (w.heap.size + 1 + 1, 0) (by simp), (ID).froz (w.heap.size + 1 + 1, 1) (by simp), (ID).froz (w.heap.size + 1 + 1, 2) (by simp), (ID).froz (w.heap.size + 1 + 1, 3) (by simp), (ID).froz (w.heap.size + 1 + 1, 4) (by simp), (ID).lt (w.heap.size + 1 + 1, 0) (by simp), ID⟩ (fun hHeld => ?_)
     refine tk (i := 0) (v := ?_) rfl (by kernel_rfl) (by kernel_rfl) (by kernel_rfl) (fun _ _ _ h => h) (Or.inl ⟨by rfl, ?_⟩) (by assumption) ?_
     rotate_left
     focus (intro w' hSw; (try dsimp only at hSw); go_simp; try with_reducible rfl)
     try simp only [Act.put, p1, p2, p3, p4, p5, p6]
     refine tk (i := 1) (v := ?_) rfl (by kernel_rfl) (by kernel_rfl) (by kernel_rfl) (fun _ _ _ h => h) (Or.inl ⟨by rfl, ?_⟩) (by assumption) ?_
     rotate_left
     focus (intro w' hSw; (try dsimp only at hSw); go_simp; try with_reducible rfl)
     try simp only [Act.put, p1, p2, p3, p4, p5, p6]
     refine tk (i := 3) (v := ?_) rfl (by kernel_rfl) (by kernel_rfl) (by kernel_rfl) (fun _ _ _ h => h) (Or.inl ⟨by rfl, ?_⟩) (by assumption) ?_
     rotate_left
     focus (intro w' hSw; (try dsimp only at hSw); go_simp; try with_reducible rfl)
     try simp only [Act.put, p1, p2, p3, p4, p5, p6]
     refine tk (i := 4) (v := ?_) rfl (by kernel_rfl) (by kernel_rfl) (by kernel_rfl) (fun _ _ _ h => h) (Or.inl ⟨by rfl, ?_⟩) (by assumption) ?_
     rotate_left
     focus (intro w' hSw; (try dsimp only at hSw); go_simp; try with_reducible rfl)
     try simp only [Act.put, p1, p2, p3, p4, p5, p6]
     refine tk (i := 7) (v := ?_) rfl (by kernel_rfl) (by kernel_rfl) (by kernel_rfl) (fun _ _ _ h => h) (Or.inl ⟨by rfl, ?_⟩) (by assumption) ?_
     rotate_left
     focus (intro w' hSw; (try dsimp only at hSw); go_simp; try with_reducible rfl)
     try simp only [Act.put, p1, p2, p3, p4, p5, p6]
     refine rd (rs := [2]) (by kernel_rfl) (by simp) ?_
     refine AllReadyH.cons rfl (fun K hK => ?_) AllReadyH.nil
     go_simp
     go_at_call 117
     refine ((S1.out _).out).mono ?_
     rintro eq1 wq1 ⟨rfl, rfl⟩
     go_wp2_with fail
     refine hK.out _ _ ⟨(ID).fixed (w.heap.size, 0, .int .i64 a) (by simp), (ID).fixed (w.heap.size, 1, .int .i64 b) (by simp), (ID).fixed (w.heap.size + 1, 0, .int .i64 c) (by simp), (ID).fixed (w.heap.size + 1, 1, .int .i64 d) (by simp), (ID).there (w.heap.size + 1 + 1, 0) (by simp), (ID).there (w.heap.size + 1 + 1, 1) (by simp), (ID).there (w.heap.size + 1 + 1, 2) (by simp), (ID).there (w.heap.size + 1 + 1, 3) (by simp), (ID).there (w.heap.size + 1 + 1, 4) (by simp), (ID).froz (w.heap.size + 1 + 1, 0) (by simp), (ID).froz (w.heap.size + 1 + 1, 1) (by simp), (ID).froz (w.heap.size + 1 + 1, 2) (by simp), (ID).froz (w.heap.size + 1 + 1, 3) (by simp), (ID).froz (w.heap.size + 1 + 1, 4) (by simp), (ID).lt (w.heap.size + 1 + 1, 0) (by simp), ID⟩ (fun hHeld => ?_)
     clear hK K
     try simp only [Act.put, p1, p2, p3, p4, p5, p6]
     refine rd (rs := [5]) (by kernel_rfl) (by simp) ?_
     refine AllReadyH.cons rfl (fun K hK => ?_) AllReadyH.nil
     go_simp
     go_at_call 117
     refine ((S2.out _).out).mono ?_
     rintro eq2 wq2 ⟨rfl, rfl⟩
     go_wp2_with fail
     refine hK.out _ _ ⟨(ID).fixed (w.heap.size, 0, .int .i64 a) (by simp), (ID).fixed (w.heap.size, 1, .int .i64 b) (by simp), (ID).fixed (w.heap.size + 1, 0, .int .i64 c) (by simp), (ID).fixed (w.heap.size + 1, 1, .int .i64 d) (by simp), (ID).there (w.heap.size + 1 + 1, 0) (by simp), (ID).there (w.heap.size + 1 + 1, 1) (by simp), (ID).there (w.heap.size + 1 + 1, 2) (by simp), (ID).there (w.heap.size + 1 + 1, 3) (by simp), (ID).there (w.heap.size + 1 + 1, 4) (by simp), (ID).froz (w.heap.size + 1 + 1, 0) (by simp), (ID).froz (w.heap.size + 1 + 1, 1) (by simp), (ID).froz (w.heap.size + 1 + 1, 2) (by simp), (ID).froz (w.heap.size + 1 + 1, 3) (by simp), (ID).froz (w.heap.size + 1 + 1, 4) (by simp), (ID).lt (w.heap.size + 1 + 1, 0) (by simp), ID⟩ (fun hHeld => ?_)
     clear hK K
     try simp only [Act.put, p1, p2, p3, p4, p5, p6]
     refine tk (i := 6) (v := ?_) rfl (by kernel_rfl) (by kernel_rfl) (by kernel_rfl) (fun _ _ _ h => h) (Or.inl ⟨by rfl, ?_⟩) (by assumption) ?_
     rotate_left
     focus (intro w' hSw; (try dsimp only at hSw); go_simp; try with_reducible rfl)
     try simp only [Act.put, p1, p2, p3, p4, p5, p6]
     refine tk (i := 8) (v := ?_) rfl (by kernel_rfl) (by kernel_rfl) (by kernel_rfl) (fun _ _ _ h => h) (Or.inl ⟨by rfl, ?_⟩) (by assumption) ?_
     rotate_left
     focus (intro w' hSw; (try dsimp only at hSw); go_simp; try with_reducible rfl)
     try simp only [Act.put, p1, p2, p3, p4, p5, p6]
     refine wpAnyH_done (by kernel_rfl) ?_ _
     go_wp2_with fail
     go_meet
     exact ⟨by first | rfl | simp, ID⟩
   · subst hc
     have hq : decide (A < l) = false := by simp; omega
     clear hAE
     refine wp_region_held_drew (S := fun w' => w'.cell? ⟨w.heap.size, 0, none⟩ = some (.int .i64 a) ∧ w'.cell? ⟨w.heap.size, 1, none⟩ = some (.int .i64 b) ∧ w'.cell? ⟨w.heap.size + 1, 0, none⟩ = some (.int .i64 c) ∧ w'.cell? ⟨w.heap.size + 1, 1, none⟩ = some (.int .i64 d) ∧ w'.cell? ⟨w.heap.size + 1 + 1, 0, none⟩ = some (valAt w' ⟨w.heap.size + 1 + 1, 0, none⟩) ∧ w'.cell? ⟨w.heap.size + 1 + 1, 1, none⟩ = some (valAt w' ⟨w.heap.size + 1 + 1, 1, none⟩) ∧ w'.cell? ⟨w.heap.size + 1 + 1, 2, none⟩ = some (valAt w' ⟨w.heap.size + 1 + 1, 2, none⟩) ∧ w'.cell? ⟨w.heap.size + 1 + 1, 3, none⟩ = some (valAt w' ⟨w.heap.size + 1 + 1, 3, none⟩) ∧ w'.cell? ⟨w.heap.size + 1 + 1, 4, none⟩ = some (valAt w' ⟨w.heap.size + 1 + 1, 4, none⟩) ∧ w'.frozen? ⟨w.heap.size + 1 + 1, 0, none⟩ = false ∧ w'.frozen? ⟨w.heap.size + 1 + 1, 1, none⟩ = false ∧ w'.frozen? ⟨w.heap.size + 1 + 1, 2, none⟩ = false ∧ w'.frozen? ⟨w.heap.size + 1 + 1, 3, none⟩ = false ∧ w'.frozen? ⟨w.heap.size + 1 + 1, 4, none⟩ = false ∧ w.heap.size + 1 + 1 < w'.heap.size ∧ Keeps (w.heap.size) [(w.heap.size, 0, .int .i64 a), (w.heap.size, 1, .int .i64 b), (w.heap.size + 1, 0, .int .i64 c), (w.heap.size + 1, 1, .int .i64 d)] [(w.heap.size + 1 + 1, 0), (w.heap.size + 1 + 1, 1), (w.heap.size + 1 + 1, 2), (w.heap.size + 1 + 1, 3), (w.heap.size + 1 + 1, 4)] w w') (by kernel_rfl) ⟨(ID).fixed (w.heap.size, 0, .int .i64 a) (by simp), (ID).fixed (w.heap.size, 1, .int .i64 b) (by simp), (ID).fixed (w.heap.size + 1, 0, .int .i64 c) (by simp), (ID).fixed (w.heap.size + 1, 1, .int .i64 d) (by simp), (ID).there (w.heap.size + 1 + 1, 0) (by simp), (ID).there (w.heap.size + 1 + 1, 1) (by simp), (ID).there (w.heap.size + 1 + 1, 2) (by simp), (ID).there (w.heap.size + 1 + 1, 3) (by simp), (ID).there (w.heap.size + 1 + 1, 4) (by simp), (ID).froz (w.heap.size + 1 + 1, 0) (by simp), (ID).froz (w.heap.size + 1 + 1, 1) (by simp), (ID).froz (w.heap.size + 1 + 1, 2) (by simp), (ID).froz (w.heap.size + 1 + 1, 3) (by simp), (ID).froz (w.heap.size + 1 + 1, 4) (by simp), (ID).lt (w.heap.size + 1 + 1, 0) (by simp), ID⟩ (fun hHeld => ?_)
     refine tk (i := 0) (v := ?_) rfl (by kernel_rfl) (by kernel_rfl) (by kernel_rfl) (fun _ _ _ h => h) (Or.inl ⟨by rfl, ?_⟩) (by assumption) ?_
     rotate_left
     focus (intro w' hSw; (try dsimp only at hSw); go_simp; try with_reducible rfl)
     try simp only [Act.put, p1, p2, p3, p4, p5, p6]
     refine tk (i := 1) (v := ?_) rfl (by kernel_rfl) (by kernel_rfl) (by kernel_rfl) (fun _ _ _ h => h) (Or.inl ⟨by rfl, ?_⟩) (by assumption) ?_
     rotate_left
     focus (intro w' hSw; (try dsimp only at hSw); go_simp; try with_reducible rfl)
     try simp only [Act.put, p1, p2, p3, p4, p5, p6]
     refine tk (i := 3) (v := ?_) rfl (by kernel_rfl) (by kernel_rfl) (by kernel_rfl) (fun _ _ _ h => h) (Or.inl ⟨by rfl, ?_⟩) (by assumption) ?_
     rotate_left
     focus (intro w' hSw; (try dsimp only at hSw); go_simp; try with_reducible rfl)
     try simp only [Act.put, p1, p2, p3, p4, p5, p6]
     refine tk (i := 4) (v := ?_) rfl (by kernel_rfl) (by kernel_rfl) (by kernel_rfl) (fun _ _ _ h => h) (Or.inl ⟨by rfl, ?_⟩) (by assumption) ?_
     rotate_left
     focus (intro w' hSw; (try dsimp only at hSw); go_simp; try with_reducible rfl)
     try simp only [Act.put, p1, p2, p3, p4, p5, p6]
     refine tk (i := 7) (v := ?_) rfl (by kernel_rfl) (by kernel_rfl) (by kernel_rfl) (fun _ _ _ h => h) (Or.inl ⟨by rfl, ?_⟩) (by assumption) ?_
     rotate_left
     focus (intro w' hSw; (try dsimp only at hSw); go_simp; try with_reducible rfl)
     try simp only [Act.put, p1, p2, p3, p4, p5, p6]
     refine rd (rs := [2]) (by kernel_rfl) (by simp) ?_
     refine AllReadyH.cons rfl (fun K hK => ?_) AllReadyH.nil
     go_simp
     go_at_call 117
     refine ((S1.out _).out).mono ?_
     rintro eq1 wq1 ⟨rfl, rfl⟩
     go_wp2_with fail
     refine hK.out _ _ ⟨(ID).fixed (w.heap.size, 0, .int .i64 a) (by simp), (ID).fixed (w.heap.size, 1, .int .i64 b) (by simp), (ID).fixed (w.heap.size + 1, 0, .int .i64 c) (by simp), (ID).fixed (w.heap.size + 1, 1, .int .i64 d) (by simp), (ID).there (w.heap.size + 1 + 1, 0) (by simp), (ID).there (w.heap.size + 1 + 1, 1) (by simp), (ID).there (w.heap.size + 1 + 1, 2) (by simp), (ID).there (w.heap.size + 1 + 1, 3) (by simp), (ID).there (w.heap.size + 1 + 1, 4) (by simp), (ID).froz (w.heap.size + 1 + 1, 0) (by simp), (ID).froz (w.heap.size + 1 + 1, 1) (by simp), (ID).froz (w.heap.size + 1 + 1, 2) (by simp), (ID).froz (w.heap.size + 1 + 1, 3) (by simp), (ID).froz (w.heap.size + 1 + 1, 4) (by simp), (ID).lt (w.heap.size + 1 + 1, 0) (by simp), ID⟩ (fun hHeld => ?_)
     clear hK K
     try simp only [Act.put, p1, p2, p3, p4, p5, p6]
     refine rd (rs := [5]) (by kernel_rfl) (by simp) ?_
     refine AllReadyH.cons rfl (fun K hK => ?_) AllReadyH.nil
     go_simp
     go_at_call 117
     refine ((S2.out _).out).mono ?_
     rintro eq2 wq2 ⟨rfl, rfl⟩
     go_wp2_with fail
     refine hK.out _ _ ⟨(ID).fixed (w.heap.size, 0, .int .i64 a) (by simp), (ID).fixed (w.heap.size, 1, .int .i64 b) (by simp), (ID).fixed (w.heap.size + 1, 0, .int .i64 c) (by simp), (ID).fixed (w.heap.size + 1, 1, .int .i64 d) (by simp), (ID).there (w.heap.size + 1 + 1, 0) (by simp), (ID).there (w.heap.size + 1 + 1, 1) (by simp), (ID).there (w.heap.size + 1 + 1, 2) (by simp), (ID).there (w.heap.size + 1 + 1, 3) (by simp), (ID).there (w.heap.size + 1 + 1, 4) (by simp), (ID).froz (w.heap.size + 1 + 1, 0) (by simp), (ID).froz (w.heap.size + 1 + 1, 1) (by simp), (ID).froz (w.heap.size + 1 + 1, 2) (by simp), (ID).froz (w.heap.size + 1 + 1, 3) (by simp), (ID).froz (w.heap.size + 1 + 1, 4) (by simp), (ID).lt (w.heap.size + 1 + 1, 0) (by simp), ID⟩ (fun hHeld => ?_)
     clear hK K
     try simp only [Act.put, p1, p2, p3, p4, p5, p6]
     refine tk (i := 6) (v := ?_) rfl (by kernel_rfl) (by kernel_rfl) (by kernel_rfl) (fun _ _ _ h => h) (Or.inl ⟨by rfl, ?_⟩) (by assumption) ?_
     rotate_left
     focus (intro w' hSw; (try dsimp only at hSw); go_simp; try with_reducible rfl)
     try simp only [Act.put, p1, p2, p3, p4, p5, p6]
     refine tk (i := 8) (v := ?_) rfl (by kernel_rfl) (by kernel_rfl) (by kernel_rfl) (fun _ _ _ h => h) (Or.inl ⟨by rfl, ?_⟩) (by assumption) ?_
     rotate_left
     focus (intro w' hSw; (try dsimp only at hSw); go_simp; try with_reducible rfl)
     try simp only [Act.put, p1, p2, p3, p4, p5, p6]
     refine wpAnyH_done (by kernel_rfl) ?_ _
     go_wp2_with fail
     go_meet
     exact ⟨by first | rfl | simp, ID⟩
   · have hc0 := hc
     have hq : decide (A < l) = false := by simp; omega
     clear hAE
     refine wp_region_held_drew (S := fun w' => w'.cell? ⟨w.heap.size, 0, none⟩ = some (.int .i64 a) ∧ w'.cell? ⟨w.heap.size, 1, none⟩ = some (.int .i64 b) ∧ w'.cell? ⟨w.heap.size + 1, 0, none⟩ = some (.int .i64 c) ∧ w'.cell? ⟨w.heap.size + 1, 1, none⟩ = some (.int .i64 d) ∧ w'.cell? ⟨w.heap.size + 1 + 1, 0, none⟩ = some (valAt w' ⟨w.heap.size + 1 + 1, 0, none⟩) ∧ w'.cell? ⟨w.heap.size + 1 + 1, 1, none⟩ = some (valAt w' ⟨w.heap.size + 1 + 1, 1, none⟩) ∧ w'.cell? ⟨w.heap.size + 1 + 1, 2, none⟩ = some (valAt w' ⟨w.heap.size + 1 + 1, 2, none⟩) ∧ w'.cell? ⟨w.heap.size + 1 + 1, 3, none⟩ = some (valAt w' ⟨w.heap.size + 1 + 1, 3, none⟩) ∧ w'.cell? ⟨w.heap.size + 1 + 1, 4, none⟩ = some (valAt w' ⟨w.heap.size + 1 + 1, 4, none⟩) ∧ w'.frozen? ⟨w.heap.size + 1 + 1, 0, none⟩ = false ∧ w'.frozen? ⟨w.heap.size + 1 + 1, 1, none⟩ = false ∧ w'.frozen? ⟨w.heap.size + 1 + 1, 2, none⟩ = false ∧ w'.frozen? ⟨w.heap.size + 1 + 1, 3, none⟩ = false ∧ w'.frozen? ⟨w.heap.size + 1 + 1, 4, none⟩ = false ∧ w.heap.size + 1 + 1 < w'.heap.size ∧ Keeps (w.heap.size) [(w.heap.size, 0, .int .i64 a), (w.heap.size, 1, .int .i64 b), (w.heap.size + 1, 0, .int .i64 c), (w.heap.size + 1, 1, .int .i64 d)] [(w.heap.size + 1 + 1, 0), (w.heap.size + 1 + 1, 1), (w.heap.size + 1 + 1, 2), (w.heap.size + 1 + 1, 3), (w.heap.size + 1 + 1, 4)] w w') (by kernel_rfl) ⟨(ID).fixed (w.heap.size, 0, .int .i64 a) (by simp), (ID).fixed (w.heap.size, 1, .int .i64 b) (by simp), (ID).fixed (w.heap.size + 1, 0, .int .i64 c) (by simp), (ID).fixed (w.heap.size + 1, 1, .int .i64 d) (by simp), (ID).there (w.heap.size + 1 + 1, 0) (by simp), (ID).there (w.heap.size + 1 + 1, 1) (by simp), (ID).there (w.heap.size + 1 + 1, 2) (by simp), (ID).there (w.heap.size + 1 + 1, 3) (by simp), (ID).there (w.heap.size + 1 + 1, 4) (by simp), (ID).froz (w.heap.size + 1 + 1, 0) (by simp), (ID).froz (w.heap.size + 1 + 1, 1) (by simp), (ID).froz (w.heap.size + 1 + 1, 2) (by simp), (ID).froz (w.heap.size + 1 + 1, 3) (by simp), (ID).froz (w.heap.size + 1 + 1, 4) (by simp), (ID).lt (w.heap.size + 1 + 1, 0) (by simp), ID⟩ (fun hHeld => ?_)
     refine tk (i := 0) (v := ?_) rfl (by kernel_rfl) (by kernel_rfl) (by kernel_rfl) (fun _ _ _ h => h) (Or.inl ⟨by rfl, ?_⟩) (by assumption) ?_
     rotate_left
     focus (intro w' hSw; (try dsimp only at hSw); go_simp; try with_reducible rfl)
     try simp only [Act.put, p1, p2, p3, p4, p5, p6]
     refine tk (i := 1) (v := ?_) rfl (by kernel_rfl) (by kernel_rfl) (by kernel_rfl) (fun _ _ _ h => h) (Or.inl ⟨by rfl, ?_⟩) (by assumption) ?_
     rotate_left
     focus (intro w' hSw; (try dsimp only at hSw); go_simp; try with_reducible rfl)
     try simp only [Act.put, p1, p2, p3, p4, p5, p6]
     refine tk (i := 3) (v := ?_) rfl (by kernel_rfl) (by kernel_rfl) (by kernel_rfl) (fun _ _ _ h => h) (Or.inl ⟨by rfl, ?_⟩) (by assumption) ?_
     rotate_left
     focus (intro w' hSw; (try dsimp only at hSw); go_simp; try with_reducible rfl)
     try simp only [Act.put, p1, p2, p3, p4, p5, p6]
     refine tk (i := 4) (v := ?_) rfl (by kernel_rfl) (by kernel_rfl) (by kernel_rfl) (fun _ _ _ h => h) (Or.inl ⟨by rfl, ?_⟩) (by assumption) ?_
     rotate_left
     focus (intro w' hSw; (try dsimp only at hSw); go_simp; try with_reducible rfl)
     try simp only [Act.put, p1, p2, p3, p4, p5, p6]
     refine tk (i := 7) (v := ?_) rfl (by kernel_rfl) (by kernel_rfl) (by kernel_rfl) (fun _ _ _ h => h) (Or.inl ⟨by rfl, ?_⟩) (by assumption) ?_
     rotate_left
     focus (intro w' hSw; (try dsimp only at hSw); go_simp; try with_reducible rfl)
     try simp only [Act.put, p1, p2, p3, p4, p5, p6]
     refine rd (rs := [2]) (by kernel_rfl) (by simp) ?_
     refine AllReadyH.cons rfl (fun K hK => ?_) AllReadyH.nil
     go_simp
     go_at_call 117
     refine ((S1.out _).out).mono ?_
     rintro eq1 wq1 ⟨rfl, rfl⟩
     go_wp2_with fail
     refine hK.out _ _ ⟨(ID).fixed (w.heap.size, 0, .int .i64 a) (by simp), (ID).fixed (w.heap.size, 1, .int .i64 b) (by simp), (ID).fixed (w.heap.size + 1, 0, .int .i64 c) (by simp), (ID).fixed (w.heap.size + 1, 1, .int .i64 d) (by simp), (ID).there (w.heap.size + 1 + 1, 0) (by simp), (ID).there (w.heap.size + 1 + 1, 1) (by simp), (ID).there (w.heap.size + 1 + 1, 2) (by simp), (ID).there (w.heap.size + 1 + 1, 3) (by simp), (ID).there (w.heap.size + 1 + 1, 4) (by simp), (ID).froz (w.heap.size + 1 + 1, 0) (by simp), (ID).froz (w.heap.size + 1 + 1, 1) (by simp), (ID).froz (w.heap.size + 1 + 1, 2) (by simp), (ID).froz (w.heap.size + 1 + 1, 3) (by simp), (ID).froz (w.heap.size + 1 + 1, 4) (by simp), (ID).lt (w.heap.size + 1 + 1, 0) (by simp), ID⟩ (fun hHeld => ?_)
     clear hK K
     try simp only [Act.put, p1, p2, p3, p4, p5, p6]
     refine rd (rs := [5]) (by kernel_rfl) (by simp) ?_
     refine AllReadyH.cons rfl (fun K hK => ?_) AllReadyH.nil
     go_simp
     go_at_call 117
     refine ((S2.out _).out).mono ?_
     rintro eq2 wq2 ⟨rfl, rfl⟩
     go_wp2_with fail
     refine hK.out _ _ ⟨(ID).fixed (w.heap.size, 0, .int .i64 a) (by simp), (ID).fixed (w.heap.size, 1, .int .i64 b) (by simp), (ID).fixed (w.heap.size + 1, 0, .int .i64 c) (by simp), (ID).fixed (w.heap.size + 1, 1, .int .i64 d) (by simp), (ID).there (w.heap.size + 1 + 1, 0) (by simp), (ID).there (w.heap.size + 1 + 1, 1) (by simp), (ID).there (w.heap.size + 1 + 1, 2) (by simp), (ID).there (w.heap.size + 1 + 1, 3) (by simp), (ID).there (w.heap.size + 1 + 1, 4) (by simp), (ID).froz (w.heap.size + 1 + 1, 0) (by simp), (ID).froz (w.heap.size + 1 + 1, 1) (by simp), (ID).froz (w.heap.size + 1 + 1, 2) (by simp), (ID).froz (w.heap.size + 1 + 1, 3) (by simp), (ID).froz (w.heap.size + 1 + 1, 4) (by simp), (ID).lt (w.heap.size + 1 + 1, 0) (by simp), ID⟩ (fun hHeld => ?_)
     clear hK K
     try simp only [Act.put, p1, p2, p3, p4, p5, p6]
     refine tk (i := 6) (v := ?_) rfl (by kernel_rfl) (by kernel_rfl) (by kernel_rfl) (fun _ _ _ h => h) (Or.inl ⟨by rfl, ?_⟩) (by assumption) ?_
     rotate_left
     focus (intro w' hSw; (try dsimp only at hSw); go_simp; try with_reducible rfl)
     try simp only [Act.put, p1, p2, p3, p4, p5, p6]
     refine tk (i := 8) (v := ?_) rfl (by kernel_rfl) (by kernel_rfl) (by kernel_rfl) (fun _ _ _ h => h) (Or.inl ⟨by rfl, ?_⟩) (by assumption) ?_
     rotate_left
     focus (intro w' hSw; (try dsimp only at hSw); go_simp; try with_reducible rfl)
     try simp only [Act.put, p1, p2, p3, p4, p5, p6]
     refine wpAnyH_done (by kernel_rfl) ?_ _
     go_wp2_with fail
     go_meet
     exact ⟨by first | rfl | simp, ID⟩
 case rest =>
   obtain ⟨rfl, K3⟩ := hcut
   clear K2 D Z S1 S2 hAE
   have K3 := Lib.hid K3
   have rr : IntKind.u64.wrap r = r := by rw [IntKind.wrap_u64]; omega
   rcases hx.out with ⟨ha, hx1, rfl⟩ | ⟨ha, hx1, rfl⟩ | ⟨ha, rfl⟩ <;> rcases hy.out with ⟨hb, hy1, rfl⟩ | ⟨hb, hy1, rfl⟩ | ⟨hb, rfl⟩
   all_goals
     clear hx hy
     have k0 : wc.cell? ⟨w.heap.size, 0, none⟩ = some (.int .i64 a) := (K3.out).fixed (w.heap.size, 0, .int .i64 a) (by simp)
     have k1 : wc.cell? ⟨w.heap.size, 1, none⟩ = some (.int .i64 b) := (K3.out).fixed (w.heap.size, 1, .int .i64 b) (by simp)
     have k2 : wc.cell? ⟨w.heap.size + 1, 0, none⟩ = some (.int .i64 c) := (K3.out).fixed (w.heap.size + 1, 0, .int .i64 c) (by simp)
     have k3 : wc.cell? ⟨w.heap.size + 1, 1, none⟩ = some (.int .i64 d) := (K3.out).fixed (w.heap.size + 1, 1, .int .i64 d) (by simp)
     have v0 : wc.cell? ⟨w.heap.size + 1 + 1, 0, none⟩ = some (valAt wc ⟨w.heap.size + 1 + 1, 0, none⟩) := (K3.out).there (w.heap.size + 1 + 1, 0) (by simp)
     have f0 : wc.frozen? ⟨w.heap.size + 1 + 1, 0, none⟩ = false := (K3.out).froz (w.heap.size + 1 + 1, 0) (by simp)
     have v1 : wc.cell? ⟨w.heap.size + 1 + 1, 1, none⟩ = some (valAt wc ⟨w.heap.size + 1 + 1, 1, none⟩) := (K3.out).there (w.heap.size + 1 + 1, 1) (by simp)
     have f1 : wc.frozen? ⟨w.heap.size + 1 + 1, 1, none⟩ = false := (K3.out).froz (w.heap.size + 1 + 1, 1) (by simp)
     have v2 : wc.cell? ⟨w.heap.size + 1 + 1, 2, none⟩ = some (valAt wc ⟨w.heap.size + 1 + 1, 2, none⟩) := (K3.out).there (w.heap.size + 1 + 1, 2) (by simp)
     have f2 : wc.frozen? ⟨w.heap.size + 1 + 1, 2, none⟩ = false := (K3.out).froz (w.heap.size + 1 + 1, 2) (by simp)
     have v3 : wc.cell? ⟨w.heap.size + 1 + 1, 3, none⟩ = some (valAt wc ⟨w.heap.size + 1 + 1, 3, none⟩) := (K3.out).there (w.heap.size + 1 + 1, 3) (by simp)
     have f3 : wc.frozen? ⟨w.heap.size + 1 + 1, 3, none⟩ = false := (K3.out).froz (w.heap.size + 1 + 1, 3) (by simp)
     have v4 : wc.cell? ⟨w.heap.size + 1 + 1, 4, none⟩ = some (valAt wc ⟨w.heap.size + 1 + 1, 4, none⟩) := (K3.out).there (w.heap.size + 1 + 1, 4) (by simp)
     have f4 : wc.frozen? ⟨w.heap.size + 1 + 1, 4, none⟩ = false := (K3.out).froz (w.heap.size + 1 + 1, 4) (by simp)
     have z0 : w.heap.size + 1 + 1 < wc.heap.size := (K3.out).lt (w.heap.size + 1 + 1, 0) (by simp)
     have y0 : w.heap.size < wc.heap.size := by omega
     have y1 : w.heap.size + 1 < wc.heap.size := by omega
     go_wp2_with fail
     refine (psure_any _ _ _).mono ?_
     clear k0 k1 k2 k3 v0 f0 v1 f1 v2 f2 v3 f3 v4 f4 z0
     rintro e w4 ⟨rfl, hB⟩
     have K4 := Lib.hid (K3.out.later (((Below.refl _ _).alloc (Nat.le_refl _) _).trans (hB.mono (by simp))))
     clear hB K3
     have k0 : w4.cell? ⟨w.heap.size, 0, none⟩ = some (.int .i64 a) := (K4.out).fixed (w.heap.size, 0, .int .i64 a) (by simp)
     have k1 : w4.cell? ⟨w.heap.size, 1, none⟩ = some (.int .i64 b) := (K4.out).fixed (w.heap.size, 1, .int .i64 b) (by simp)
     have k2 : w4.cell? ⟨w.heap.size + 1, 0, none⟩ = some (.int .i64 c) := (K4.out).fixed (w.heap.size + 1, 0, .int .i64 c) (by simp)
     have k3 : w4.cell? ⟨w.heap.size + 1, 1, none⟩ = some (.int .i64 d) := (K4.out).fixed (w.heap.size + 1, 1, .int .i64 d) (by simp)
     have v0 : w4.cell? ⟨w.heap.size + 1 + 1, 0, none⟩ = some (valAt w4 ⟨w.heap.size + 1 + 1, 0, none⟩) := (K4.out).there (w.heap.size + 1 + 1, 0) (by simp)
     have f0 : w4.frozen? ⟨w.heap.size + 1 + 1, 0, none⟩ = false := (K4.out).froz (w.heap.size + 1 + 1, 0) (by simp)
     have v1 : w4.cell? ⟨w.heap.size + 1 + 1, 1, none⟩ = some (valAt w4 ⟨w.heap.size + 1 + 1, 1, none⟩) := (K4.out).there (w.heap.size + 1 + 1, 1) (by simp)
     have f1 : w4.frozen? ⟨w.heap.size + 1 + 1, 1, none⟩ = false := (K4.out).froz (w.heap.size + 1 + 1, 1) (by simp)
     have v2 : w4.cell? ⟨w.heap.size + 1 + 1, 2, none⟩ = some (valAt w4 ⟨w.heap.size + 1 + 1, 2, none⟩) := (K4.out).there (w.heap.size + 1 + 1, 2) (by simp)
     have f2 : w4.frozen? ⟨w.heap.size + 1 + 1, 2, none⟩ = false := (K4.out).froz (w.heap.size + 1 + 1, 2) (by simp)
     have v3 : w4.cell? ⟨w.heap.size + 1 + 1, 3, none⟩ = some (valAt w4 ⟨w.heap.size + 1 + 1, 3, none⟩) := (K4.out).there (w.heap.size + 1 + 1, 3) (by simp)
     have f3 : w4.frozen? ⟨w.heap.size + 1 + 1, 3, none⟩ = false := (K4.out).froz (w.heap.size + 1 + 1, 3) (by simp)
     have v4 : w4.cell? ⟨w.heap.size + 1 + 1, 4, none⟩ = some (valAt w4 ⟨w.heap.size + 1 + 1, 4, none⟩) := (K4.out).there (w.heap.size + 1 + 1, 4) (by simp)
     have f4 : w4.frozen? ⟨w.heap.size + 1 + 1, 4, none⟩ = false := (K4.out).froz (w.heap.size + 1 + 1, 4) (by simp)
     have z0 : w.heap.size + 1 + 1 < w4.heap.size := (K4.out).lt (w.heap.size + 1 + 1, 0) (by simp)
     go_wp2
     refine bodyPost_ret (by simp [results, Try.results97, go_sem, v0, v1, v2, v3, v4]) rfl ⟨rfl, ?_⟩
     have bl := K4.out.bl
     exact ((((bl.setCell (by simp; omega) _).setCell (by simp; omega) _).setCell (by simp; omega) _).setCell (by simp; omega) _).setCell (by simp; omega) _
end Go.Proofs.Ytgkhldbnljdeiaa
