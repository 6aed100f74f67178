/- The contract of the reference function rest of layer 4, for 1 part of the divisor. -/
import Derived.Test.YtgkhldbnljdeiaaPutRules
import Derived.LoopTactic
import Derived.Deep.RegionHeld3
import Derived.Deep.DrawnRows
import Derived.Test.YtgkhldbnljdeiaaQRefLToRangesB
import Derived.Test.YtgkhldbnljdeiaaQRefQToRefS
import Derived.Test.YtgkhldbnljdeiaaQRngZTToRefZ
set_option maxRecDepth 100000
set_option maxHeartbeats 4000000
set_option linter.unusedSimpArgs false
set_option linter.unusedVariables false
namespace Go.Proofs.Ytgkhldbnljdeiaa
open Go.RowKit
attribute [local go_sem] World.setCell_self
attribute [local go_sem ↓] Go.wp_at_zero Go.wp_at_succ
theorem rest_1 (a b x0 y0 X0 Y0 L0 H0 A B x y : Int) (g cap : Nat) (w : World) (hg : g < w.heap.size) (row : ∀ i v, ([.int .i64 x0, .int .i64 y0] : List Value)[i]? = some v → w.cell? ⟨g, i, none⟩ = some v) (hcap : 1 ≤ cap)
   (sX0 : ∀ w, Hid (Calls Try.prog 108 #[.int .i64 x0] w fun e w' => e = .returned (.int .u64 X0) ∧ w = w')) (sY0 : ∀ w, Hid (Calls Try.prog 108 #[.int .i64 y0] w fun e w' => e = .returned (.int .u64 Y0) ∧ w = w')) (sA : ∀ w, Hid (Calls Try.prog 108 #[.int .i64 a] w fun e w' => e = .returned (.int .u64 A) ∧ w = w')) (sB : ∀ w, Hid (Calls Try.prog 108 #[.int .i64 b] w fun e w' => e = .returned (.int .u64 B) ∧ w = w')) (m0 : min (min X0 X0) Y0 = L0) (n0 : max (max X0 X0) Y0 = H0)
   (hr : Hid (RestIs a b A B L0 H0 x y)) (h1 : 1 ≤ H0) (h2 : H0 ≤ 9223372036854775808) :
   Calls Try.prog 64 #[.agg #[.int .i64 a, .int .i64 b], .slice (some ⟨g, 0, none⟩) 1 cap] w fun e w' => e = .returned (.agg #[.int .i64 x, .int .i64 y]) ∧ Below w.heap.size w w' := by
 go_enter Try.func64, Try.ntmps64
 go_upto_region 1 with fail
 have J := Lib.hid (restIn w a b g [.int .i64 x0, .int .i64 y0] hg row)
 clear row
 generalize ((w.alloc (.cells #[.int .i64 a, .int .i64 b] 23)).alloc (.cells #[.int .i64 0, .int .i64 0] 23)) = W at *
 refine wp_region_held_drew (S := fun w' => w' = W.drew) (by kernel_rfl) rfl (fun hHeld => ?_)
 have J1 := Lib.hid J.out.drew
 clear J
 generalize W.drew = V at *
 obtain ⟨⟨a0, a1, r0, r1, f0, f1, s0, s1, bl⟩, row⟩ := J1.out
 have c0 := row 0 _ rfl; have c1 := row 1 _ rfl
 clear row
 refine tk (i := 0) (v := ?_) rfl (by kernel_rfl) (by kernel_rfl) (by kernel_rfl) (fun _ _ _ h => h) (Or.inl ⟨by rfl, ?_⟩) (by assumption) ?_
 rotate_left
 focus (intro w' hSw; obtain rfl := hSw; go_simp; try with_reducible rfl)
 try simp only [Act.put, p1, p2, p3, p4, p5, p6]
 refine tk (i := 1) (v := ?_) rfl (by kernel_rfl) (by kernel_rfl) (by kernel_rfl) (fun _ _ _ h => h) (Or.inl ⟨by rfl, ?_⟩) (by assumption) ?_
 rotate_left
 focus (intro w' hSw; obtain rfl := hSw; go_simp; try with_reducible rfl)
 try simp only [Act.put, p1, p2, p3, p4, p5, p6]
 refine tk (i := 2) (v := ?_) rfl (by kernel_rfl) (by kernel_rfl) (by kernel_rfl) (fun _ _ _ h => h) (Or.inl ⟨by rfl, ?_⟩) (by assumption) ?_
 rotate_left
 focus (intro w' hSw; obtain rfl := hSw; go_simp; try with_reducible rfl)
 try simp only [Act.put, p1, p2, p3, p4, p5, p6]
 refine tk (i := 3) (v := ?_) rfl (by kernel_rfl) (by kernel_rfl) (by kernel_rfl) (fun _ _ _ h => h) (Or.inl ⟨by rfl, ?_⟩) (by assumption) ?_
 rotate_left
 focus (intro w' hSw; obtain rfl := hSw; go_simp; try with_reducible rfl)
 try simp only [Act.put, p1, p2, p3, p4, p5, p6]
 refine tk (i := 5) (v := ?_) rfl (by kernel_rfl) (by kernel_rfl) (by kernel_rfl) (fun _ _ _ h => h) (Or.inl ⟨by rfl, ?_⟩) (by assumption) ?_
 rotate_left
 focus (intro w' hSw; obtain rfl := hSw; go_simp; try with_reducible rfl)
 try simp only [Act.put, p1, p2, p3, p4, p5, p6]
 refine tk (i := 6) (v := ?_) rfl (by kernel_rfl) (by kernel_rfl) (by kernel_rfl) (fun _ _ _ h => h) (Or.inl ⟨by rfl, ?_⟩) (by assumption) ?_
 rotate_left
 focus (intro w' hSw; obtain rfl := hSw; go_simp; try with_reducible rfl)
 try simp only [Act.put, p1, p2, p3, p4, p5, p6]
 refine tk (i := 7) (v := ?_) rfl (by kernel_rfl) (by kernel_rfl) (by kernel_rfl) (fun _ _ _ h => h) (Or.inl ⟨by rfl, ?_⟩) (by assumption) ?_
 rotate_left
 focus (intro w' hSw; obtain rfl := hSw; go_simp; try with_reducible rfl)
 try simp only [Act.put, p1, p2, p3, p4, p5, p6]
 refine tk (i := 8) (v := ?_) rfl (by kernel_rfl) (by kernel_rfl) (by kernel_rfl) (fun _ _ _ h => h) (Or.inl ⟨by rfl, ?_⟩) (by assumption) ?_
 rotate_left
 focus (intro w' hSw; obtain rfl := hSw; go_simp; try with_reducible rfl)
 try simp only [Act.put, p1, p2, p3, p4, p5, p6]
 refine rd (rs := [4]) (by kernel_rfl) (by simp) ?_
 refine AllReadyH.cons rfl (fun K hK => ?_) AllReadyH.nil
 go_simp
 go_at_call 108
 refine (sX0 _).out.mono ?_
 rintro eq wq ⟨rfl, rfl⟩
 (try go_simp)
 refine hK.out _ _ rfl (fun hHeld => ?_)
 clear hK K
 try simp only [Act.put, p1, p2, p3, p4, p5, p6]
 refine rd (rs := [9]) (by kernel_rfl) (by simp) ?_
 refine AllReadyH.cons rfl (fun K hK => ?_) AllReadyH.nil
 go_simp
 go_at_call 108
 refine (sX0 _).out.mono ?_
 rintro eq wq ⟨rfl, rfl⟩
 (try go_simp)
 refine hK.out _ _ rfl (fun hHeld => ?_)
 clear hK K
 try simp only [Act.put, p1, p2, p3, p4, p5, p6]
 refine tk (i := 10) (v := ?_) rfl (by kernel_rfl) (by kernel_rfl) (by kernel_rfl) (fun _ _ _ h => h) (Or.inl ⟨by rfl, ?_⟩) (by assumption) ?_
 rotate_left
 focus (intro w' hSw; obtain rfl := hSw; go_simp; try with_reducible rfl)
 try simp only [Act.put, p1, p2, p3, p4, p5, p6]
 refine tk (i := 11) (v := ?_) rfl (by kernel_rfl) (by kernel_rfl) (by kernel_rfl) (fun _ _ _ h => h) (Or.inl ⟨by rfl, ?_⟩) (by assumption) ?_
 rotate_left
 focus (intro w' hSw; obtain rfl := hSw; go_simp; try with_reducible rfl)
 try simp only [Act.put, p1, p2, p3, p4, p5, p6]
 refine wpAnyH_done (by kernel_rfl) ?_ _
 clear hHeld a0 a1 r0 r1 f0 f1 s0 s1 bl
 go_wp2_with fail
 go_loopw [5, 6, 7] (fun l h i wr => RestIn w wr a b g [.int .i64 x0, .int .i64 y0] ∧ ((i = .int .i64 0 ∧ l = .int .u64 X0 ∧ h = .int .u64 X0) ∨ (i = .int .i64 1 ∧ l = .int .u64 L0 ∧ h = .int .u64 H0))) (fun _ _ i _ => (1 - intOf i).toNat)
 case atStart => exact ⟨J1.out, .inl ⟨rfl, rfl, rfl⟩⟩
 case round =>
   obtain ⟨hJ, hst⟩ := hrel
   clear J1
   have J := Lib.hid hJ
   clear hJ
   rcases hst with ⟨rfl, rfl, rfl⟩ | ⟨rfl, rfl, rfl⟩
   · go_upto_region 5 with fail
     refine wp_region_held_drew (S := fun w' => w' = wr.drew) (by kernel_rfl) rfl (fun hHeld => ?_)
     have J1 := Lib.hid J.out.drew
     clear J
     generalize wr.drew = V at *
     obtain ⟨⟨a0, a1, r0, r1, f0, f1, s0, s1, bl⟩, row⟩ := J1.out
     have c0 := row 0 _ rfl; have c1 := row 1 _ rfl
     clear row
     refine tk (i := 0) (v := ?_) rfl (by kernel_rfl) (by kernel_rfl) (by kernel_rfl) (fun _ _ _ h => h) (Or.inl ⟨by rfl, ?_⟩) (by assumption) ?_
     rotate_left
     focus (intro w' hSw; obtain rfl := hSw; go_simp; try with_reducible rfl)
     try simp only [Act.put, p1, p2, p3, p4, p5, p6]
     refine tk (i := 1) (v := ?_) rfl (by kernel_rfl) (by kernel_rfl) (by kernel_rfl) (fun _ _ _ h => h) (Or.inl ⟨by rfl, ?_⟩) (by assumption) ?_
     rotate_left
     focus (intro w' hSw; obtain rfl := hSw; go_simp; try with_reducible rfl)
     try simp only [Act.put, p1, p2, p3, p4, p5, p6]
     refine tk (i := 2) (v := ?_) rfl (by kernel_rfl) (by kernel_rfl) (by kernel_rfl) (fun _ _ _ h => h) (Or.inl ⟨by rfl, ?_⟩) (by assumption) ?_
     rotate_left
     focus (intro w' hSw; obtain rfl := hSw; go_simp; try with_reducible rfl)
     try simp only [Act.put, p1, p2, p3, p4, p5, p6]
     refine tk (i := 3) (v := ?_) rfl (by kernel_rfl) (by kernel_rfl) (by kernel_rfl) (fun _ _ _ h => h) (Or.inl ⟨by rfl, ?_⟩) (by assumption) ?_
     rotate_left
     focus (intro w' hSw; obtain rfl := hSw; go_simp; try with_reducible rfl)
     try simp only [Act.put, p1, p2, p3, p4, p5, p6]
     refine tk (i := 4) (v := ?_) rfl (by kernel_rfl) (by kernel_rfl) (by kernel_rfl) (fun _ _ _ h => h) (Or.inl ⟨by rfl, ?_⟩) (by assumption) ?_
     rotate_left
     focus (intro w' hSw; obtain rfl := hSw; go_simp; try with_reducible rfl)
     try simp only [Act.put, p1, p2, p3, p4, p5, p6]
     refine tk (i := 5) (v := ?_) rfl (by kernel_rfl) (by kernel_rfl) (by kernel_rfl) (fun _ _ _ h => h) (Or.inl ⟨by rfl, ?_⟩) (by assumption) ?_
     rotate_left
     focus (intro w' hSw; obtain rfl := hSw; go_simp; try with_reducible rfl)
     try simp only [Act.put, p1, p2, p3, p4, p5, p6]
     refine tk (i := 7) (v := ?_) rfl (by kernel_rfl) (by kernel_rfl) (by kernel_rfl) (fun _ _ _ h => h) (Or.inl ⟨by rfl, ?_⟩) (by assumption) ?_
     rotate_left
     focus (intro w' hSw; obtain rfl := hSw; go_simp; try with_reducible rfl)
     try simp only [Act.put, p1, p2, p3, p4, p5, p6]
     refine tk (i := 8) (v := ?_) rfl (by kernel_rfl) (by kernel_rfl) (by kernel_rfl) (fun _ _ _ h => h) (Or.inl ⟨by rfl, ?_⟩) (by assumption) ?_
     rotate_left
     focus (intro w' hSw; obtain rfl := hSw; go_simp; try with_reducible rfl)
     try simp only [Act.put, p1, p2, p3, p4, p5, p6]
     refine tk (i := 9) (v := ?_) rfl (by kernel_rfl) (by kernel_rfl) (by kernel_rfl) (fun _ _ _ h => h) (Or.inl ⟨by rfl, ?_⟩) (by assumption) ?_
     rotate_left
     focus (intro w' hSw; obtain rfl := hSw; go_simp; try with_reducible rfl)
     try simp only [Act.put, p1, p2, p3, p4, p5, p6]
     refine tk (i := 10) (v := ?_) rfl (by kernel_rfl) (by kernel_rfl) (by kernel_rfl) (fun _ _ _ h => h) (Or.inl ⟨by rfl, ?_⟩) (by assumption) ?_
     rotate_left
     focus (intro w' hSw; obtain rfl := hSw; go_simp; try with_reducible rfl)
     try simp only [Act.put, p1, p2, p3, p4, p5, p6]
     refine tk (i := 11) (v := ?_) rfl (by kernel_rfl) (by kernel_rfl) (by kernel_rfl) (fun _ _ _ h => h) (Or.inl ⟨by rfl, ?_⟩) (by assumption) ?_
     rotate_left
     focus (intro w' hSw; obtain rfl := hSw; go_simp; try with_reducible rfl)
     try simp only [Act.put, p1, p2, p3, p4, p5, p6]
     refine tk (i := 14) (v := ?_) rfl (by kernel_rfl) (by kernel_rfl) (by kernel_rfl) (fun _ _ _ h => h) (Or.inl ⟨by rfl, ?_⟩) (by assumption) ?_
     rotate_left
     focus (intro w' hSw; obtain rfl := hSw; go_simp; try with_reducible rfl)
     try simp only [Act.put, p1, p2, p3, p4, p5, p6]
     refine tk (i := 15) (v := ?_) rfl (by kernel_rfl) (by kernel_rfl) (by kernel_rfl) (fun _ _ _ h => h) (Or.inl ⟨by rfl, ?_⟩) (by assumption) ?_
     rotate_left
     focus (intro w' hSw; obtain rfl := hSw; go_simp; try with_reducible rfl)
     try simp only [Act.put, p1, p2, p3, p4, p5, p6]
     refine tk (i := 16) (v := ?_) rfl (by kernel_rfl) (by kernel_rfl) (by kernel_rfl) (fun _ _ _ h => h) (Or.inl ⟨by rfl, ?_⟩) (by assumption) ?_
     rotate_left
     focus (intro w' hSw; obtain rfl := hSw; go_simp; try with_reducible rfl)
     try simp only [Act.put, p1, p2, p3, p4, p5, p6]
     refine tk (i := 17) (v := ?_) rfl (by kernel_rfl) (by kernel_rfl) (by kernel_rfl) (fun _ _ _ h => h) (Or.inl ⟨by rfl, ?_⟩) (by assumption) ?_
     rotate_left
     focus (intro w' hSw; obtain rfl := hSw; go_simp; try with_reducible rfl)
     try simp only [Act.put, p1, p2, p3, p4, p5, p6]
     refine tk (i := 18) (v := ?_) rfl (by kernel_rfl) (by kernel_rfl) (by kernel_rfl) (fun _ _ _ h => h) (Or.inl ⟨by rfl, ?_⟩) (by assumption) ?_
     rotate_left
     focus (intro w' hSw; obtain rfl := hSw; go_simp; try with_reducible rfl)
     try simp only [Act.put, p1, p2, p3, p4, p5, p6]
     refine tk (i := 19) (v := ?_) rfl (by kernel_rfl) (by kernel_rfl) (by kernel_rfl) (fun _ _ _ h => h) (Or.inl ⟨by rfl, ?_⟩) (by assumption) ?_
     rotate_left
     focus (intro w' hSw; obtain rfl := hSw; go_simp; try with_reducible rfl)
     try simp only [Act.put, p1, p2, p3, p4, p5, p6]
     refine tk (i := 21) (v := ?_) rfl (by kernel_rfl) (by kernel_rfl) (by kernel_rfl) (fun _ _ _ h => h) (Or.inl ⟨by rfl, ?_⟩) (by assumption) ?_
     rotate_left
     focus (intro w' hSw; obtain rfl := hSw; go_simp; try with_reducible rfl)
     try simp only [Act.put, p1, p2, p3, p4, p5, p6]
     refine tk (i := 22) (v := ?_) rfl (by kernel_rfl) (by kernel_rfl) (by kernel_rfl) (fun _ _ _ h => h) (Or.inl ⟨by rfl, ?_⟩) (by assumption) ?_
     rotate_left
     focus (intro w' hSw; obtain rfl := hSw; go_simp; try with_reducible rfl)
     try simp only [Act.put, p1, p2, p3, p4, p5, p6]
     refine tk (i := 23) (v := ?_) rfl (by kernel_rfl) (by kernel_rfl) (by kernel_rfl) (fun _ _ _ h => h) (Or.inl ⟨by rfl, ?_⟩) (by assumption) ?_
     rotate_left
     focus (intro w' hSw; obtain rfl := hSw; go_simp; try with_reducible rfl)
     try simp only [Act.put, p1, p2, p3, p4, p5, p6]
     refine tk (i := 24) (v := ?_) rfl (by kernel_rfl) (by kernel_rfl) (by kernel_rfl) (fun _ _ _ h => h) (Or.inl ⟨by rfl, ?_⟩) (by assumption) ?_
     rotate_left
     focus (intro w' hSw; obtain rfl := hSw; go_simp; try with_reducible rfl)
     try simp only [Act.put, p1, p2, p3, p4, p5, p6]
     refine tk (i := 25) (v := ?_) rfl (by kernel_rfl) (by kernel_rfl) (by kernel_rfl) (fun _ _ _ h => h) (Or.inl ⟨by rfl, ?_⟩) (by assumption) ?_
     rotate_left
     focus (intro w' hSw; obtain rfl := hSw; go_simp; try with_reducible rfl)
     try simp only [Act.put, p1, p2, p3, p4, p5, p6]
     refine rd (rs := [6]) (by kernel_rfl) (by simp) ?_
     refine AllReadyH.cons rfl (fun K hK => ?_) AllReadyH.nil
     go_simp
     go_at_call 108
     refine (sX0 _).out.mono ?_
     rintro eq wq ⟨rfl, rfl⟩
     (try go_simp)
     refine hK.out _ _ rfl (fun hHeld => ?_)
     clear hK K
     try simp only [Act.put, p1, p2, p3, p4, p5, p6]
     refine rd (rs := [12]) (by kernel_rfl) (by simp) ?_
     refine AllReadyH.cons rfl (fun K hK => ?_) AllReadyH.nil
     go_simp
     go_at_call 108
     refine (sY0 _).out.mono ?_
     rintro eq wq ⟨rfl, rfl⟩
     (try go_simp)
     refine hK.out _ _ rfl (fun hHeld => ?_)
     clear hK K
     try simp only [Act.put, p1, p2, p3, p4, p5, p6]
     refine tk (i := 13) (v := ?_) rfl (by kernel_rfl) (by kernel_rfl) (by kernel_rfl) (fun _ _ _ h => h) (Or.inl ⟨by rfl, ?_⟩) (by assumption) ?_
     rotate_left
     focus (intro w' hSw; obtain rfl := hSw; go_simp; try with_reducible rfl)
     try simp only [Act.put, p1, p2, p3, p4, p5, p6]
     refine rd (rs := [20]) (by kernel_rfl) (by simp) ?_
     refine AllReadyH.cons rfl (fun K hK => ?_) AllReadyH.nil
     go_simp
     go_at_call 108
     refine (sX0 _).out.mono ?_
     rintro eq wq ⟨rfl, rfl⟩
     (try go_simp)
     refine hK.out _ _ rfl (fun hHeld => ?_)
     clear hK K
     try simp only [Act.put, p1, p2, p3, p4, p5, p6]
     refine rd (rs := [26]) (by kernel_rfl) (by simp) ?_
     refine AllReadyH.cons rfl (fun K hK => ?_) AllReadyH.nil
     go_simp
     go_at_call 108
     refine (sY0 _).out.mono ?_
     rintro eq wq ⟨rfl, rfl⟩
     (try go_simp)
     refine hK.out _ _ rfl (fun hHeld => ?_)
     clear hK K
     try simp only [Act.put, p1, p2, p3, p4, p5, p6]
     refine tk (i := 27) (v := ?_) rfl (by kernel_rfl) (by kernel_rfl) (by kernel_rfl) (fun _ _ _ h => h) (Or.inl ⟨by rfl, ?_⟩) (by assumption) ?_
     rotate_left
     focus (intro w' hSw; obtain rfl := hSw; go_simp; try with_reducible rfl)
     try simp only [Act.put, p1, p2, p3, p4, p5, p6]
     refine tk (i := 28) (v := ?_) rfl (by kernel_rfl) (by kernel_rfl) (by kernel_rfl) (fun _ _ _ h => h) (Or.inl ⟨by rfl, ?_⟩) (by assumption) ?_
     rotate_left
     focus (intro w' hSw; obtain rfl := hSw; go_simp; try with_reducible rfl)
     try simp only [Act.put, p1, p2, p3, p4, p5, p6]
     refine tk (i := 29) (v := ?_) rfl (by kernel_rfl) (by kernel_rfl) (by kernel_rfl) (fun _ _ _ h => h) (Or.inl ⟨by rfl, ?_⟩) (by assumption) ?_
     rotate_left
     focus (intro w' hSw; obtain rfl := hSw; go_simp; try with_reducible rfl)
     try simp only [Act.put, p1, p2, p3, p4, p5, p6]
     refine wpAnyH_done (by kernel_rfl) ?_ _
     clear hHeld a0 a1 r0 r1 f0 f1 s0 s1 bl
     have e1 : (if Y0 < X0 then Y0 else X0) = L0 := by (repeat' split) <;> omega
     have e2 : (if X0 < Y0 then Y0 else X0) = H0 := by (repeat' split) <;> omega
     simp only [e1, e2]
     clear e1 e2
     go_wp2_with fail
     go_roundw
     case rel => exact ⟨J1.out, .inr (⟨rfl, rfl, rfl⟩)⟩
     case measure => simp [intOf]
   · obtain ⟨M, rfl⟩ : ∃ M, H0 = M + 1 := ⟨H0 - 1, by omega⟩
     have hr' := hr.out
     by_cases hA : A < L0
     · by_cases hB : B < L0
       · obtain ⟨rfl, rfl⟩ := rest_same hr' hA hB
         clear hr'
         obtain ⟨⟨a0, a1, r0, r1, f0, f1, s0, s1, bl⟩, row⟩ := J.out
         clear row
         go_wp2_with fail
         refine (sA _).out.mono ?_
         rintro e wq ⟨rfl, rfl⟩
         go_wp2_with fail
         refine (sB _).out.mono ?_
         rintro e wq ⟨rfl, rfl⟩
         go_wp2
         refine bodyPost_ret (v := .agg #[.int .i64 _, .int .i64 _]) (by simp [results, Try.results64, go_sem, *]) rfl ⟨rfl, (bl.setCell (by simp) _).setCell (by simp) _⟩
       · clear hr
         have hxy : ((a < 0 ∧ -M ≤ a ∧ a = x) ∨ (a < 0 ∧ a < -M ∧ -M = x) ∨ (decide (a < 0) = false ∧ 0 = x)) ∧ ((0 < b ∧ b ≤ M ∧ b = y) ∨ (0 < b ∧ M < b ∧ M = y) ∨ (decide (0 < b) = false ∧ 0 = y)) := rest_parts hr' (by omega)
         clear hr'
         obtain ⟨hx | hx | hx, hy | hy | hy⟩ := hxy
         all_goals
           obtain ⟨hx1, hx2⟩ := hx
           obtain ⟨hy1, hy2⟩ := hy
           first | (obtain ⟨hx3, rfl⟩ := hx2) | (obtain rfl := hx2)
           first | (obtain ⟨hy3, rfl⟩ := hy2) | (obtain rfl := hy2)
           obtain ⟨⟨a0, a1, r0, r1, f0, f1, s0, s1, bl⟩, row⟩ := J.out
           clear row
           go_wp2_with fail
           refine (sA _).out.mono ?_
           rintro e wq ⟨rfl, rfl⟩
           go_wp2_with fail
           refine (sB _).out.mono ?_
           rintro e wq ⟨rfl, rfl⟩
           go_wp2
           refine bodyPost_ret (v := .agg #[.int .i64 _, .int .i64 _]) (by simp [results, Try.results64, go_sem, *]) rfl ⟨rfl, by first | exact ((bl.setCell (by simp) _).setCell (by simp) _).alloc (by simp [World.setCell]; omega) _ | exact (bl.setCell (by simp) _).alloc (by simp [World.setCell]; omega) _ | exact bl.alloc (by omega) _⟩
     · clear hr
       have hxy : ((a < 0 ∧ -M ≤ a ∧ a = x) ∨ (a < 0 ∧ a < -M ∧ -M = x) ∨ (decide (a < 0) = false ∧ 0 = x)) ∧ ((0 < b ∧ b ≤ M ∧ b = y) ∨ (0 < b ∧ M < b ∧ M = y) ∨ (decide (0 < b) = false ∧ 0 = y)) := rest_parts hr' (by omega)
       clear hr'
       obtain ⟨hx | hx | hx, hy | hy | hy⟩ := hxy
       all_goals
         obtain ⟨hx1, hx2⟩ := hx
         obtain ⟨hy1, hy2⟩ := hy
         first | (obtain ⟨hx3, rfl⟩ := hx2) | (obtain rfl := hx2)
         first | (obtain ⟨hy3, rfl⟩ := hy2) | (obtain rfl := hy2)
         obtain ⟨⟨a0, a1, r0, r1, f0, f1, s0, s1, bl⟩, row⟩ := J.out
         clear row
         go_wp2_with fail
         refine (sA _).out.mono ?_
         rintro e wq ⟨rfl, rfl⟩
         go_wp2_with fail
         go_wp2
         refine bodyPost_ret (v := .agg #[.int .i64 _, .int .i64 _]) (by simp [results, Try.results64, go_sem, *]) rfl ⟨rfl, by first | exact ((bl.setCell (by simp) _).setCell (by simp) _).alloc (by simp [World.setCell]; omega) _ | exact (bl.setCell (by simp) _).alloc (by simp [World.setCell]; omega) _ | exact bl.alloc (by omega) _⟩
end Go.Proofs.Ytgkhldbnljdeiaa
