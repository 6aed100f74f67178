/- RngZ, RngZ1, LowMath. -/
import Derived.Test.YtgkhldbnljdeiaaPutRules
import Derived.Deep.LoopGhost
import Derived.Test.YtgkhldbnljdeiaaQRngKToRngY
import Derived.Test.YtgkhldbnljdeiaaQRangesIToRngB
import Derived.LoopTactic
import Derived.RegionTactic
import Derived.Deep.DeepCutAuto
import Derived.Test.YtgkhldbnljdeiaaQRefLToRangesB
import Derived.Test.YtgkhldbnljdeiaaQRefHToRefI
import Derived.Test.YtgkhldbnljdeiaaQLawOpsToRangesE
set_option maxRecDepth 100000
set_option maxHeartbeats 4000000
set_option linter.unusedSimpArgs false
set_option linter.unusedVariables false
namespace Go.Proofs.Ytgkhldbnljdeiaa
open Go.RowKit
attribute [local go_sem] World.setCell_self
attribute [local go_sem ↓] Go.wp_at_zero Go.wp_at_succ
theorem pmax_of (l : List Int) (g cap : Nat) (w : World) (hg : g < w.heap.size) (h0 : 0 < l.length) (hn : l.length ≤ 100) (hcap : l.length ≤ cap) (H : Hid (NumsAt w g l)) :
   Calls Try.prog 69 #[.slice (some ⟨g, 0, none⟩) l.length cap, .func (.func 68) #[] #[]] w fun e w' => e = .returned (numV (maxTo l (l.length - 1))) ∧ Below w.heap.size w w' := by
 obtain ⟨n, hnl⟩ : ∃ n, n = l.length := ⟨_, rfl⟩
 rw [← hnl] at h0 hn hcap ⊢
 have HN := Lib.hid hnl
 clear hnl
 have c0 : w.cell? ⟨g, 0, none⟩ = some (.int .i64 (l.getD 0 0 / 18446744073709551616)) := by have := (H.out 0 (by rw [← HN.out]; exact h0)).1; simpa using this
 have c1 : w.cell? ⟨g, 1, none⟩ = some (.int .u64 (l.getD 0 0 % 18446744073709551616)) := by have := (H.out 0 (by rw [← HN.out]; exact h0)).2; simpa using this
 have HP : Hid (l.getD 0 0 / 18446744073709551616 = maxTo l 0 / 18446744073709551616 ∧ l.getD 0 0 % 18446744073709551616 = maxTo l 0 % 18446744073709551616) := Lib.hid ⟨rfl, rfl⟩
 generalize l.getD 0 0 / 18446744073709551616 = p0 at *
 generalize l.getD 0 0 % 18446744073709551616 = q0 at *
 have h0' : (0 : Int) < n := by omega
 have h0'' : ¬ (n : Int) < 1 := by omega
 go_enter Try.func69, Try.ntmps69
 go_wp2_with fail
 have KS : (fun p q => Keeps w.heap.size [(w.heap.size + 1, 0, .int .i64 p), (w.heap.size + 1, 1, .int .u64 q)] [(w.heap.size + 1, 0), (w.heap.size + 1, 1), (w.heap.size, 0), (w.heap.size, 1)] w) p0 q0 ((w.alloc (.cells #[.int .i64 0, .int .u64 0] 79)).alloc (.cells #[.int .i64 p0, .int .u64 q0] 79)) := by
   refine ⟨?_, ?_, ?_, ?_, by simp; omega, ((Below.refl _ _).alloc (Nat.le_refl _) _).alloc (by simp) _⟩
   · simp only [fm, nm, false_imp_iff, implies_true, and_true]
     exact ⟨by go_simp, by go_simp⟩
   · simp only [fm, nm, false_imp_iff, implies_true, and_true]
     exact ⟨valAt_some (by go_simp), valAt_some (by go_simp), valAt_some (by go_simp), valAt_some (by go_simp)⟩
   · simp only [fm, nm, false_imp_iff, implies_true, and_true]
     exact ⟨by go_simp, by go_simp, by go_simp, by go_simp⟩
   · simp only [fm, nm, false_imp_iff, implies_true, and_true]
     exact ⟨by simp, by simp, by simp; omega, by simp; omega⟩
 have KS := Lib.hid KS
 clear c0 c1
 go_loopw [6] (fun i wr => ∃ (t : Nat) (p q : Int), i = .int .i64 ((t : Int) + 1) ∧ t + 1 ≤ n ∧ Hid (p = maxTo l t / 18446744073709551616 ∧ q = maxTo l t % 18446744073709551616) ∧ Keeps w.heap.size [(w.heap.size + 1, 0, .int .i64 p), (w.heap.size + 1, 1, .int .u64 q)] [(w.heap.size + 1, 0), (w.heap.size + 1, 1), (w.heap.size, 0), (w.heap.size, 1)] w wr) (fun i _ => (n - intOf i).toNat)
 case atStart => exact ⟨0, p0, q0, rfl, by omega, HP, KS.out⟩
 case round =>
   clear KS HP
   obtain ⟨t, p, q, rfl, htn, HM, K⟩ := hrel
   by_cases hlt : t + 1 < n
   · obtain ⟨x, hx⟩ : ∃ x, x = l.getD (t + 1) 0 := ⟨_, rfl⟩
     obtain ⟨m, hm⟩ : ∃ m, m = maxTo l t := ⟨_, rfl⟩
     have hlz : (t : Int) + 1 < (n : Int) := by omega
     obtain ⟨iN, hiN⟩ : ∃ q, q = t + 1 := ⟨_, rfl⟩
     have ea : ((t : Int) + 1).toNat = iN := by omega
     have pa : (0 : Int) ≤ (t : Int) + 1 := by omega
     have ra : IntKind.i64.wrap ((t : Int) + 1) = (t : Int) + 1 := by rw [IntKind.wrap_i64]; omega
     have cx := H.out iN (by rw [← HN.out]; omega)
     rw [hiN, ← hx, ← hiN] at cx
     obtain ⟨x0, hx0⟩ : ∃ z, z = x / 18446744073709551616 := ⟨_, rfl⟩
     obtain ⟨x1, hx1⟩ : ∃ z, z = x % 18446744073709551616 := ⟨_, rfl⟩
     rw [← hx0, ← hx1] at cx
     have k0 : wr.cell? ⟨g, iN * 2, none⟩ = some (.int .i64 x0) := (K.bl.cell (p := ⟨g, iN * 2, none⟩) hg).trans cx.1
     have k1 : wr.cell? ⟨g, iN * 2 + 1, none⟩ = some (.int .u64 x1) := (K.bl.cell (p := ⟨g, iN * 2 + 1, none⟩) hg).trans cx.2
     have ID : Keeps w.heap.size [(g, iN * 2, .int .i64 x0), (g, iN * 2 + 1, .int .u64 x1), (w.heap.size + 1, 0, .int .i64 p), (w.heap.size + 1, 1, .int .u64 q)] [(w.heap.size + 1, 0), (w.heap.size + 1, 1), (w.heap.size, 0), (w.heap.size, 1)] w wr.drew := by
       have K' := K.later (Below.refl _ _).drew
       refine ⟨?_, K'.there, K'.froz, K'.lt, K'.base, K'.bl⟩
       intro z hz
       simp only [List.mem_cons, List.not_mem_nil, or_false] at hz
       rcases hz with rfl | rfl | rfl | rfl
       · exact k0
       · exact k1
       · exact K'.fixed _ (by simp)
       · exact K'.fixed _ (by simp)
     have CC := pcompare x m
     unfold numV at CC
     have C : ∀ w, Hid (Calls Try.prog 68 #[.agg #[.int .i64 x0, .int .u64 x1], .agg #[.int .i64 p, .int .u64 q]] w fun e w' => e = .returned (.int .i64 (cmpI x m)) ∧ Below w.heap.size w w') := by
       intro w
       rw [hx0, hx1, HM.out.1, HM.out.2, ← hm]
       exact Lib.hid (CC w)
     have HX0 := Lib.hid hx0
     have HX1 := Lib.hid hx1
     have HiN := Lib.hid hiN
     have hs : maxTo l (t + 1) = max m x := by rw [hm, hx]; rfl
     have HS0 := Lib.hid hs
     have Hm := Lib.hid hm
     clear CC cx K k0 k1 hx0 hx1 hiN hx hm hs
     by_cases hq : m < x
     · have hc : 0 < cmpI x m := by unfold cmpI; split <;> first | omega | (split <;> omega)
       have HS : Hid (maxTo l (t + 1) = x) := Lib.hid (HS0.out.trans (by omega))
       generalize cmpI x m = c at *
       clear hq HS0
       go_wp2_with fail
       refine wp_region_held_drew (S := fun w' => w'.cell? ⟨g, iN * 2, none⟩ = some (.int .i64 x0) ∧ w'.cell? ⟨g, iN * 2 + 1, none⟩ = some (.int .u64 x1) ∧ w'.cell? ⟨w.heap.size + 1, 0, none⟩ = some (.int .i64 p) ∧ w'.cell? ⟨w.heap.size + 1, 1, none⟩ = some (.int .u64 q) ∧ w'.cell? ⟨w.heap.size + 1, 0, none⟩ = some (valAt w' ⟨w.heap.size + 1, 0, none⟩) ∧ w'.cell? ⟨w.heap.size + 1, 1, none⟩ = some (valAt w' ⟨w.heap.size + 1, 1, none⟩) ∧ w'.cell? ⟨w.heap.size, 0, none⟩ = some (valAt w' ⟨w.heap.size, 0, none⟩) ∧ w'.cell? ⟨w.heap.size, 1, none⟩ = some (valAt w' ⟨w.heap.size, 1, none⟩) ∧ w'.frozen? ⟨w.heap.size + 1, 0, none⟩ = false ∧ w'.frozen? ⟨w.heap.size + 1, 1, none⟩ = false ∧ w'.frozen? ⟨w.heap.size, 0, none⟩ = false ∧ w'.frozen? ⟨w.heap.size, 1, none⟩ = false ∧ w.heap.size + 1 < w'.heap.size ∧ w.heap.size < w'.heap.size ∧ Keeps (w.heap.size) [(g, iN * 2, .int .i64 x0), (g, iN * 2 + 1, .int .u64 x1), (w.heap.size + 1, 0, .int .i64 p), (w.heap.size + 1, 1, .int .u64 q)] [(w.heap.size + 1, 0), (w.heap.size + 1, 1), (w.heap.size, 0), (w.heap.size, 1)] w w') (by kernel_rfl) ⟨(ID).fixed (g, iN * 2, .int .i64 x0) (by simp), (ID).fixed (g, iN * 2 + 1, .int .u64 x1) (by simp), (ID).fixed (w.heap.size + 1, 0, .int .i64 p) (by simp), (ID).fixed (w.heap.size + 1, 1, .int .u64 q) (by simp), (ID).there (w.heap.size + 1, 0) (by simp), (ID).there (w.heap.size + 1, 1) (by simp), (ID).there (w.heap.size, 0) (by simp), (ID).there (w.heap.size, 1) (by simp), (ID).froz (w.heap.size + 1, 0) (by simp), (ID).froz (w.heap.size + 1, 1) (by simp), (ID).froz (w.heap.size, 0) (by simp), (ID).froz (w.heap.size, 1) (by simp), (ID).lt (w.heap.size + 1, 0) (by simp), (ID).lt (w.heap.size, 0) (by simp), ID⟩ (fun hHeld => ?_)
       refine tk (i := 0) (v := ?_) rfl (by kernel_rfl) (by kernel_rfl) (by kernel_rfl) (fun _ _ _ h => h) (Or.inl ⟨by rfl, ?_⟩) (by assumption) ?_
       rotate_left
       focus (intro w' hSw; (try dsimp only at hSw); go_simp; try with_reducible rfl)
       try simp only [Act.put, p1, p2, p3, p4, p5, p6]
       refine tk (i := 1) (v := ?_) rfl (by kernel_rfl) (by kernel_rfl) (by kernel_rfl) (fun _ _ _ h => h) (Or.inl ⟨by rfl, ?_⟩) (by assumption) ?_
       rotate_left
       focus (intro w' hSw; (try dsimp only at hSw); go_simp; try with_reducible rfl)
       try simp only [Act.put, p1, p2, p3, p4, p5, p6]
       refine tk (i := 2) (v := ?_) rfl (by kernel_rfl) (by kernel_rfl) (by kernel_rfl) (fun _ _ _ h => h) (Or.inl ⟨by rfl, ?_⟩) (by assumption) ?_
       rotate_left
       focus (intro w' hSw; (try dsimp only at hSw); go_simp; try with_reducible rfl)
       try simp only [Act.put, p1, p2, p3, p4, p5, p6]
       refine tk (i := 3) (v := ?_) rfl (by kernel_rfl) (by kernel_rfl) (by kernel_rfl) (fun _ _ _ h => h) (Or.inl ⟨by rfl, ?_⟩) (by assumption) ?_
       rotate_left
       focus (intro w' hSw; (try dsimp only at hSw); go_simp; try with_reducible rfl)
       try simp only [Act.put, p1, p2, p3, p4, p5, p6]
       refine tk (i := 4) (v := ?_) rfl (by kernel_rfl) (by kernel_rfl) (by kernel_rfl) (fun _ _ _ h => h) (Or.inl ⟨by rfl, ?_⟩) (by assumption) ?_
       rotate_left
       focus (intro w' hSw; (try dsimp only at hSw); go_simp; try with_reducible rfl)
       try simp only [Act.put, p1, p2, p3, p4, p5, p6]
       refine tk (i := 5) (v := ?_) rfl (by kernel_rfl) (by kernel_rfl) (by kernel_rfl) (fun _ _ _ h => h) (Or.inl ⟨by rfl, ?_⟩) (by assumption) ?_
       rotate_left
       focus (intro w' hSw; (try dsimp only at hSw); go_simp; try with_reducible rfl)
       try simp only [Act.put, p1, p2, p3, p4, p5, p6]
       refine rd (rs := [6]) (by kernel_rfl) (by simp) ?_
       refine AllReadyH.cons rfl (fun K hK => ?_) AllReadyH.nil
       go_simp
       go_at_call 68
       refine ((C _).out).mono ?_
       rintro eq1 wq1 ⟨rfl, hB1⟩
       have I1 := Lib.hid ((ID).later (hB1))
       clear hB1
       go_wp2_with fail
       refine hK.out _ _ ⟨(I1.out).fixed (g, iN * 2, .int .i64 x0) (by simp), (I1.out).fixed (g, iN * 2 + 1, .int .u64 x1) (by simp), (I1.out).fixed (w.heap.size + 1, 0, .int .i64 p) (by simp), (I1.out).fixed (w.heap.size + 1, 1, .int .u64 q) (by simp), (I1.out).there (w.heap.size + 1, 0) (by simp), (I1.out).there (w.heap.size + 1, 1) (by simp), (I1.out).there (w.heap.size, 0) (by simp), (I1.out).there (w.heap.size, 1) (by simp), (I1.out).froz (w.heap.size + 1, 0) (by simp), (I1.out).froz (w.heap.size + 1, 1) (by simp), (I1.out).froz (w.heap.size, 0) (by simp), (I1.out).froz (w.heap.size, 1) (by simp), (I1.out).lt (w.heap.size + 1, 0) (by simp), (I1.out).lt (w.heap.size, 0) (by simp), I1.out⟩ (fun hHeld => ?_)
       clear hK K
       try simp only [Act.put, p1, p2, p3, p4, p5, p6]
       refine tk (i := 7) (v := ?_) rfl (by kernel_rfl) (by kernel_rfl) (by kernel_rfl) (fun _ _ _ h => h) (Or.inl ⟨by rfl, ?_⟩) (by assumption) ?_
       rotate_left
       focus (intro w' hSw; (try dsimp only at hSw); go_simp; try with_reducible rfl)
       try simp only [Act.put, p1, p2, p3, p4, p5, p6]
       refine wpAnyH_done (by kernel_rfl) ?_ _
       have m0 := I1.out.fixed (w.heap.size + 1, 0, .int .i64 p) (by simp)
       have m1 := I1.out.fixed (w.heap.size + 1, 1, .int .u64 q) (by simp)
       have d0 := I1.out.fixed (g, iN * 2, .int .i64 x0) (by simp)
       have d1 := I1.out.fixed (g, iN * 2 + 1, .int .u64 x1) (by simp)
       have f0 := I1.out.froz (w.heap.size + 1, 0) (by simp)
       have f1 := I1.out.froz (w.heap.size + 1, 1) (by simp)
       dsimp only at m0 m1 d0 d1 f0 f1
       clear hHeld ID C
       go_wp2
       go_roundw
       case rel => exact ⟨t + 1, x0, x1, congrArg (Value.int IntKind.i64) (by omega), by omega, Lib.hid ⟨by rw [HX0.out, HS.out], by rw [HX1.out, HS.out]⟩, I1.out.put2 (w.heap.size + 1) (.int .i64 x0) (.int .u64 x1) (by simp) (by simp) (by omega)⟩
       case measure => simp [intOf]; omega
     · have hc : decide (0 < cmpI x m) = false := by simp only [decide_eq_false_iff_not]; unfold cmpI; split <;> first | omega | (split <;> omega)
       have HS : Hid (maxTo l (t + 1) = maxTo l t) := Lib.hid ((HS0.out.trans (by omega)).trans Hm.out)
       generalize cmpI x m = c at *
       clear hq HS0
       go_wp2_with fail
       refine wp_region_held_drew (S := fun w' => w'.cell? ⟨g, iN * 2, none⟩ = some (.int .i64 x0) ∧ w'.cell? ⟨g, iN * 2 + 1, none⟩ = some (.int .u64 x1) ∧ w'.cell? ⟨w.heap.size + 1, 0, none⟩ = some (.int .i64 p) ∧ w'.cell? ⟨w.heap.size + 1, 1, none⟩ = some (.int .u64 q) ∧ w'.cell? ⟨w.heap.size + 1, 0, none⟩ = some (valAt w' ⟨w.heap.size + 1, 0, none⟩) ∧ w'.cell? ⟨w.heap.size + 1, 1, none⟩ = some (valAt w' ⟨w.heap.size + 1, 1, none⟩) ∧ w'.cell? ⟨w.heap.size, 0, none⟩ = some (valAt w' ⟨w.heap.size, 0, none⟩) ∧ w'.cell? ⟨w.heap.size, 1, none⟩ = some (valAt w' ⟨w.heap.size, 1, none⟩) ∧ w'.frozen? ⟨w.heap.size + 1, 0, none⟩ = false ∧ w'.frozen? ⟨w.heap.size + 1, 1, none⟩ = false ∧ w'.frozen? ⟨w.heap.size, 0, none⟩ = false ∧ w'.frozen? ⟨w.heap.size, 1, none⟩ = false ∧ w.heap.size + 1 < w'.heap.size ∧ w.heap.size < w'.heap.size ∧ Keeps (w.heap.size) [(g, iN * 2, .int .i64 x0), (g, iN * 2 + 1, .int .u64 x1), (w.heap.size + 1, 0, .int .i64 p), (w.heap.size + 1, 1, .int .u64 q)] [(w.heap.size + 1, 0), (w.heap.size + 1, 1), (w.heap.size, 0), (w.heap.size, 1)] w w') (by kernel_rfl) ⟨(ID).fixed (g, iN * 2, .int .i64 x0) (by simp), (ID).fixed (g, iN * 2 + 1, .int .u64 x1) (by simp), (ID).fixed (w.heap.size + 1, 0, .int .i64 p) (by simp), (ID).fixed (w.heap.size + 1, 1, .int .u64 q) (by simp), (ID).there (w.heap.size + 1, 0) (by simp), (ID).there (w.heap.size + 1, 1) (by simp), (ID).there (w.heap.size, 0) (by simp), (ID).there (w.heap.size, 1) (by simp), (ID).froz (w.heap.size + 1, 0) (by simp), (ID).froz (w.heap.size + 1, 1) (by simp), (ID).froz (w.heap.size, 0) (by simp), (ID).froz (w.heap.size, 1) (by simp), (ID).lt (w.heap.size + 1, 0) (by simp), (ID).lt (w.heap.size, 0) (by simp), ID⟩ (fun hHeld => ?_)
       refine tk (i := 0) (v := ?_) rfl (by kernel_rfl) (by kernel_rfl) (by kernel_rfl) (fun _ _ _ h => h) (Or.inl ⟨by rfl, ?_⟩) (by assumption) ?_
       rotate_left
       focus (intro w' hSw; (try dsimp only at hSw); go_simp; try with_reducible rfl)
       try simp only [Act.put, p1, p2, p3, p4, p5, p6]
       refine tk (i := 1) (v := ?_) rfl (by kernel_rfl) (by kernel_rfl) (by kernel_rfl) (fun _ _ _ h => h) (Or.inl ⟨by rfl, ?_⟩) (by assumption) ?_
       rotate_left
       focus (intro w' hSw; (try dsimp only at hSw); go_simp; try with_reducible rfl)
       try simp only [Act.put, p1, p2, p3, p4, p5, p6]
       refine tk (i := 2) (v := ?_) rfl (by kernel_rfl) (by kernel_rfl) (by kernel_rfl) (fun _ _ _ h => h) (Or.inl ⟨by rfl, ?_⟩) (by assumption) ?_
       rotate_left
       focus (intro w' hSw; (try dsimp only at hSw); go_simp; try with_reducible rfl)
       try simp only [Act.put, p1, p2, p3, p4, p5, p6]
       refine tk (i := 3) (v := ?_) rfl (by kernel_rfl) (by kernel_rfl) (by kernel_rfl) (fun _ _ _ h => h) (Or.inl ⟨by rfl, ?_⟩) (by assumption) ?_
       rotate_left
       focus (intro w' hSw; (try dsimp only at hSw); go_simp; try with_reducible rfl)
       try simp only [Act.put, p1, p2, p3, p4, p5, p6]
       refine tk (i := 4) (v := ?_) rfl (by kernel_rfl) (by kernel_rfl) (by kernel_rfl) (fun _ _ _ h => h) (Or.inl ⟨by rfl, ?_⟩) (by assumption) ?_
       rotate_left
       focus (intro w' hSw; (try dsimp only at hSw); go_simp; try with_reducible rfl)
       try simp only [Act.put, p1, p2, p3, p4, p5, p6]
       refine tk (i := 5) (v := ?_) rfl (by kernel_rfl) (by kernel_rfl) (by kernel_rfl) (fun _ _ _ h => h) (Or.inl ⟨by rfl, ?_⟩) (by assumption) ?_
       rotate_left
       focus (intro w' hSw; (try dsimp only at hSw); go_simp; try with_reducible rfl)
       try simp only [Act.put, p1, p2, p3, p4, p5, p6]
       refine rd (rs := [6]) (by kernel_rfl) (by simp) ?_
       refine AllReadyH.cons rfl (fun K hK => ?_) AllReadyH.nil
       go_simp
       go_at_call 68
       refine ((C _).out).mono ?_
       rintro eq1 wq1 ⟨rfl, hB1⟩
       have I1 := Lib.hid ((ID).later (hB1))
       clear hB1
       go_wp2_with fail
       refine hK.out _ _ ⟨(I1.out).fixed (g, iN * 2, .int .i64 x0) (by simp), (I1.out).fixed (g, iN * 2 + 1, .int .u64 x1) (by simp), (I1.out).fixed (w.heap.size + 1, 0, .int .i64 p) (by simp), (I1.out).fixed (w.heap.size + 1, 1, .int .u64 q) (by simp), (I1.out).there (w.heap.size + 1, 0) (by simp), (I1.out).there (w.heap.size + 1, 1) (by simp), (I1.out).there (w.heap.size, 0) (by simp), (I1.out).there (w.heap.size, 1) (by simp), (I1.out).froz (w.heap.size + 1, 0) (by simp), (I1.out).froz (w.heap.size + 1, 1) (by simp), (I1.out).froz (w.heap.size, 0) (by simp), (I1.out).froz (w.heap.size, 1) (by simp), (I1.out).lt (w.heap.size + 1, 0) (by simp), (I1.out).lt (w.heap.size, 0) (by simp), I1.out⟩ (fun hHeld => ?_)
       clear hK K
       try simp only [Act.put, p1, p2, p3, p4, p5, p6]
       refine tk (i := 7) (v := ?_) rfl (by kernel_rfl) (by kernel_rfl) (by kernel_rfl) (fun _ _ _ h => h) (Or.inl ⟨by rfl, ?_⟩) (by assumption) ?_
       rotate_left
       focus (intro w' hSw; (try dsimp only at hSw); go_simp; try with_reducible rfl)
       try simp only [Act.put, p1, p2, p3, p4, p5, p6]
       refine wpAnyH_done (by kernel_rfl) ?_ _
       have m0 := I1.out.fixed (w.heap.size + 1, 0, .int .i64 p) (by simp)
       have m1 := I1.out.fixed (w.heap.size + 1, 1, .int .u64 q) (by simp)
       have d0 := I1.out.fixed (g, iN * 2, .int .i64 x0) (by simp)
       have d1 := I1.out.fixed (g, iN * 2 + 1, .int .u64 x1) (by simp)
       have f0 := I1.out.froz (w.heap.size + 1, 0) (by simp)
       have f1 := I1.out.froz (w.heap.size + 1, 1) (by simp)
       dsimp only at m0 m1 d0 d1 f0 f1
       clear hHeld ID C
       go_wp2
       go_roundw
       case rel => exact ⟨t + 1, p, q, congrArg (Value.int IntKind.i64) (by omega), by omega, Lib.hid ⟨by rw [HM.out.1, HS.out], by rw [HM.out.2, HS.out]⟩, ⟨fun z hz => I1.out.fixed z (by simp only [List.mem_cons, List.not_mem_nil, or_false] at hz; rcases hz with rfl | rfl <;> simp), I1.out.there, I1.out.froz, I1.out.lt, I1.out.base, I1.out.bl⟩⟩
       case measure => simp [intOf]; omega
   · obtain rfl : n = t + 1 := by omega
     have m0 := K.fixed (w.heap.size + 1, 0, .int .i64 p) (by simp)
     have m1 := K.fixed (w.heap.size + 1, 1, .int .u64 q) (by simp)
     have r0 := K.there (w.heap.size, 0) (by simp)
     have r1 := K.there (w.heap.size, 1) (by simp)
     have f0 := K.froz (w.heap.size, 0) (by simp)
     have f1 := K.froz (w.heap.size, 1) (by simp)
     dsimp only at m0 m1 r0 r1 f0 f1
     have bl := K.bl
     clear K
     go_wp2
     refine bodyPost_ret (v := .agg #[.int .i64 p, .int .u64 q]) (by simp [results, Try.results69, go_sem, r0, r1]) rfl ⟨congrArg Ending.returned (numV_mk HM.out.1 HM.out.2), ?_⟩
     exact (bl.setCell (by simp) _).setCell (by simp) _
end Go.Proofs.Ytgkhldbnljdeiaa
namespace Go.Proofs.Ytgkhldbnljdeiaa
open Go.RowKit
attribute [local go_sem] World.setCell_self
attribute [local go_sem ↓] Go.wp_at_zero Go.wp_at_succ
theorem paround (l : List Int) (g cap : Nat) (w : World) (p q r s : Int) (hg : g < w.heap.size) (hcap : l.length ≤ cap) (H : Hid (NumsAt w g l))
   (A : ∀ w, g < w.heap.size → Hid (NumsAt w g l) → Hid (Calls Try.prog 67 #[.slice (some ⟨g, 0, none⟩) l.length cap, .func (.func 68) #[] #[]] w fun e w' => e = .returned (.agg #[.int .i64 p, .int .u64 q]) ∧ Below w.heap.size w w'))
   (B : ∀ w, g < w.heap.size → Hid (NumsAt w g l) → Hid (Calls Try.prog 69 #[.slice (some ⟨g, 0, none⟩) l.length cap, .func (.func 68) #[] #[]] w fun e w' => e = .returned (.agg #[.int .i64 r, .int .u64 s]) ∧ Below w.heap.size w w')) :
   Calls Try.prog 42 #[.slice (some ⟨g, 0, none⟩) l.length cap] w fun e w' => e = .returned (.agg #[.int .i64 p, .int .u64 q, .int .i64 r, .int .u64 s]) ∧ Below w.heap.size w w' := by
 have A := Lib.hid A
 have B := Lib.hid B
 generalize hn : l.length = n at *
 clear hn
 go_enter Try.func42, Try.ntmps42
 go_wp2_with fail
 refine (A.out _ (by simp; omega) (Lib.hid (H.out.later hg ((Below.refl _ _).alloc (Nat.le_refl _) _)))).out.mono ?_
 rintro e w1 ⟨rfl, hB1⟩
 have b1 : Below w.heap.size w w1 := ((Below.refl _ _).alloc (Nat.le_refl _) _).trans (hB1.mono (by simp))
 have z1 : w.heap.size < w1.heap.size := by have := hB1.size; simp at this; omega
 obtain ⟨hc, hf⟩ := bcell hB1
 have c0 : w1.cell? ⟨w.heap.size, 0, none⟩ = some (.int .i64 0) := cell_later hB1 (by go_simp)
 have c1 : w1.cell? ⟨w.heap.size, 1, none⟩ = some (.int .u64 0) := cell_later hB1 (by go_simp)
 have c2 : w1.cell? ⟨w.heap.size, 2, none⟩ = some (.int .i64 0) := cell_later hB1 (by go_simp)
 have c3 : w1.cell? ⟨w.heap.size, 3, none⟩ = some (.int .u64 0) := cell_later hB1 (by go_simp)
 have f0 : w1.frozen? ⟨w.heap.size, 0, none⟩ = false := keepFr hB1 (by simp) (by go_simp)
 have f1 : w1.frozen? ⟨w.heap.size, 1, none⟩ = false := keepFr hB1 (by simp) (by go_simp)
 have f2 : w1.frozen? ⟨w.heap.size, 2, none⟩ = false := keepFr hB1 (by simp) (by go_simp)
 have f3 : w1.frozen? ⟨w.heap.size, 3, none⟩ = false := keepFr hB1 (by simp) (by go_simp)
 clear hB1 hc hf
 go_wp2_with fail
 refine (B.out _ (by omega) (Lib.hid (H.out.later hg b1))).out.mono ?_
 rintro e w2 ⟨rfl, hB2⟩
 have c0 : w2.cell? ⟨w.heap.size, 0, none⟩ = some (.int .i64 0) := cell_later hB2 c0
 have c1 : w2.cell? ⟨w.heap.size, 1, none⟩ = some (.int .u64 0) := cell_later hB2 c1
 have c2 : w2.cell? ⟨w.heap.size, 2, none⟩ = some (.int .i64 0) := cell_later hB2 c2
 have c3 : w2.cell? ⟨w.heap.size, 3, none⟩ = some (.int .u64 0) := cell_later hB2 c3
 have f0 : w2.frozen? ⟨w.heap.size, 0, none⟩ = false := keepFr hB2 z1 f0
 have f1 : w2.frozen? ⟨w.heap.size, 1, none⟩ = false := keepFr hB2 z1 f1
 have f2 : w2.frozen? ⟨w.heap.size, 2, none⟩ = false := keepFr hB2 z1 f2
 have f3 : w2.frozen? ⟨w.heap.size, 3, none⟩ = false := keepFr hB2 z1 f3
 go_wp2
 refine bodyPost_ret (v := .agg #[.int .i64 p, .int .u64 q, .int .i64 r, .int .u64 s]) (by simp [results, Try.results42, go_sem, c0, c1, c2, c3]) rfl ⟨rfl, ?_⟩
 exact (b1.trans (hB2.mono (by omega))).setCell (by simp) _ |>.setCell (by simp) _ |>.setCell (by simp) _ |>.setCell (by simp) _
theorem paround_any (l : List Int) (g cap : Nat) (w : World) (hg : g < w.heap.size) (h0 : 0 < l.length) (hn : l.length ≤ 100) (hcap : l.length ≤ cap) (H : NumsAt w g l) :
   Calls Try.prog 42 #[.slice (some ⟨g, 0, none⟩) l.length cap] w fun e w' => e = .returned (.agg #[.int .i64 (minTo l (l.length - 1) / 18446744073709551616), .int .u64 (minTo l (l.length - 1) % 18446744073709551616), .int .i64 (maxTo l (l.length - 1) / 18446744073709551616), .int .u64 (maxTo l (l.length - 1) % 18446744073709551616)]) ∧ Below w.heap.size w w' :=
 paround l g cap w _ _ _ _ hg hcap (Lib.hid H) (fun w hg H => Lib.hid (pmin_of l g cap w hg h0 hn hcap H)) (fun w hg H => Lib.hid (pmax_of l g cap w hg h0 hn hcap H))
theorem pvalue_words (p q v r : Int) (b : Bool) (w : World) (hw : wrap64 q = v) (hw' : IntKind.i64.wrap q = v) (N : ∀ w, Hid (Calls Try.prog 43 #[.int .i64 v] w fun e w' => e = .returned (.agg #[.int .i64 r, .int .u64 q]) ∧ Below w.heap.size w w')) (hb : (p == r) = b) :
   Calls Try.prog 70 #[.agg #[.int .i64 p, .int .u64 q]] w fun e w' => e = .returned (.bool b) ∧ Below w.heap.size w w' := by
 cases b
 all_goals
   go_enter Try.func70, Try.ntmps70
   go_wp2_with fail
   have ID : Keeps (w.heap.size) [(w.heap.size, 0, .int .i64 p), (w.heap.size, 1, .int .u64 q)] [] w (w.alloc (.cells #[.int .i64 p, .int .u64 q] 79)).drew := by
     refine ⟨?_, by simp, by simp, by simp, by simp, ((Below.refl _ _).alloc (Nat.le_refl _) _).drew⟩
     simp only [fm, nm, false_imp_iff, implies_true, and_true]
     exact ⟨by go_simp, by go_simp⟩
   generalize (w.alloc (.cells #[.int .i64 p, .int .u64 q] 79)) = W at *
   refine wp_region_held_drew (S := fun w' => w'.cell? ⟨w.heap.size, 0, none⟩ = some (.int .i64 p) ∧ w'.cell? ⟨w.heap.size, 1, none⟩ = some (.int .u64 q) ∧ Keeps (w.heap.size) [(w.heap.size, 0, .int .i64 p), (w.heap.size, 1, .int .u64 q)] [] w w') (by kernel_rfl) ⟨(ID).fixed (w.heap.size, 0, .int .i64 p) (by simp), (ID).fixed (w.heap.size, 1, .int .u64 q) (by simp), ID⟩ (fun hHeld => ?_)
   refine tk (i := 0) (v := ?_) rfl (by kernel_rfl) (by kernel_rfl) (by kernel_rfl) (fun _ _ _ h => h) (Or.inl ⟨by rfl, ?_⟩) (by assumption) ?_
   rotate_left
   focus (intro w' hSw; (try dsimp only at hSw); go_simp; try with_reducible rfl)
   try simp only [Act.put, p1, p2, p3, p4, p5, p6]
   refine tk (i := 1) (v := ?_) rfl (by kernel_rfl) (by kernel_rfl) (by kernel_rfl) (fun _ _ _ h => h) (Or.inl ⟨by rfl, ?_⟩) (by assumption) ?_
   rotate_left
   focus (intro w' hSw; (try dsimp only at hSw); go_simp; try with_reducible rfl)
   try simp only [Act.put, p1, p2, p3, p4, p5, p6]
   refine tk (i := 2) (v := ?_) rfl (by kernel_rfl) (by kernel_rfl) (by kernel_rfl) (fun _ _ _ h => h) (Or.inl ⟨by rfl, ?_⟩) (by assumption) ?_
   rotate_left
   focus (intro w' hSw; (try dsimp only at hSw); go_simp; try with_reducible rfl)
   try simp only [Act.put, p1, p2, p3, p4, p5, p6]
   refine tk (i := 3) (v := ?_) rfl (by kernel_rfl) (by kernel_rfl) (by kernel_rfl) (fun _ _ _ h => h) (Or.inl ⟨by rfl, ?_⟩) (by assumption) ?_
   rotate_left
   focus (intro w' hSw; (try dsimp only at hSw); go_simp; try with_reducible rfl)
   try simp only [Act.put, p1, p2, p3, p4, p5, p6]
   refine rd (rs := [4]) (by kernel_rfl) (by simp) ?_
   refine AllReadyH.cons rfl (fun K hK => ?_) AllReadyH.nil
   go_simp
   go_at_call 43
   refine ((N _).out).mono ?_
   rintro eq1 wq1 ⟨rfl, hB1⟩
   have I1 := Lib.hid ((ID).later (hB1))
   clear hB1
   go_wp2_with fail
   refine hK.out _ _ ⟨(I1.out).fixed (w.heap.size, 0, .int .i64 p) (by simp), (I1.out).fixed (w.heap.size, 1, .int .u64 q) (by simp), I1.out⟩ (fun hHeld => ?_)
   clear hK K
   try simp only [Act.put, p1, p2, p3, p4, p5, p6]
   refine tk (i := 5) (v := ?_) rfl (by kernel_rfl) (by kernel_rfl) (by kernel_rfl) (fun _ _ _ h => h) (Or.inl ⟨by rfl, ?_⟩) (by assumption) ?_
   rotate_left
   focus (intro w' hSw; (try dsimp only at hSw); go_simp; try with_reducible rfl)
   try simp only [Act.put, p1, p2, p3, p4, p5, p6]
   refine tk (i := 6) (v := ?_) rfl (by kernel_rfl) (by kernel_rfl) (by kernel_rfl) (fun _ _ _ h => h) (Or.inl ⟨by rfl, ?_⟩) (by assumption) ?_
   rotate_left
   focus (intro w' hSw; (try dsimp only at hSw); go_simp; try with_reducible rfl)
   try simp only [Act.put, p1, p2, p3, p4, p5, p6]
   refine wpAnyH_done (by kernel_rfl) ?_ _
   go_wp2
   go_ret
   exact ⟨rfl, I1.out.bl⟩
theorem pvalue_any (v : Int) (w : World) : Calls Try.prog 70 #[.agg #[.int .i64 (v / 18446744073709551616), .int .u64 (v % 18446744073709551616)]] w fun e w' => e = .returned (.bool (!RangesMath.out64 v)) ∧ Below w.heap.size w w' := by
 have h1 : -9223372036854775808 ≤ wrap64 (v % 18446744073709551616) ∧ wrap64 (v % 18446744073709551616) ≤ 9223372036854775807 := by unfold wrap64; omega
 have N := pnumber_of _ w h1.1 h1.2
 refine pvalue_words _ _ (wrap64 (v % 18446744073709551616)) (wrap64 (v % 18446744073709551616) / 18446744073709551616) _ w rfl (by rw [IntKind.wrap_i64]; unfold wrap64; omega) (fun w => Lib.hid ?_) ?_
 · have N := pnumber_of _ w h1.1 h1.2
   unfold numV at N
   have e : wrap64 (v % 18446744073709551616) % 18446744073709551616 = v % 18446744073709551616 := by unfold wrap64; omega
   rw [e] at N
   exact N
 unfold RangesMath.out64
 by_cases h : v < -9223372036854775808 ∨ 9223372036854775807 < v
 · simp only [h, decide_true, Bool.not_true, beq_eq_false_iff_ne]
   unfold wrap64; omega
 · simp only [h, decide_false, Bool.not_false, beq_iff_eq]
   unfold wrap64; omega
end Go.Proofs.Ytgkhldbnljdeiaa
namespace Go.Proofs.Ytgkhldbnljdeiaa
open Go.RowKit RangesMath
theorem low8_eq (x : Int) : bits .and .i64 x 255 = x % 256 := by
 show IntKind.i64.wrap ((BitVec.ofInt 64 x &&& BitVec.ofInt 64 255).toNat : Int) = _
 rw [BitVec.toNat_and]
 have e : (BitVec.ofInt 64 255).toNat = 2 ^ 8 - 1 := by decide
 rw [e, Nat.and_two_pow_sub_one_eq_mod, BitVec.toNat_ofInt, IntKind.wrap_i64]
 omega
theorem low_sml {k : Int} (h : (k == 2) = true) (x : Int) : low k x = bits .and .i64 x 255 := by
 unfold low; rw [if_pos (by simpa using h), low8_eq]
end Go.Proofs.Ytgkhldbnljdeiaa
