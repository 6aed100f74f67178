/- RngK, RngX, RngY. -/
import Derived.Test.YtgkhldbnljdeiaaPutRules
import Derived.Test.YtgkhldbnljdeiaaQRefVToRefT0
import Derived.Deep.DrawnRows
import Derived.Test.YtgkhldbnljdeiaaQRangesIToRngB
import Derived.Deep.LoopGhost
set_option maxRecDepth 100000
set_option maxHeartbeats 4000000
set_option linter.unusedSimpArgs false
set_option linter.unusedVariables false
namespace Go.Proofs.Ytgkhldbnljdeiaa
open Go.RowKit
/-- The cells in fix hold their values; the cells in var are there and may be written; all lie in blocks that there are; below B all is as in w0. -/
structure Keeps (B : Nat) (fix : List (Nat × Nat × Value)) (var : List (Nat × Nat)) (w0 w : World) : Prop where
 fixed : ∀ p ∈ fix, w.cell? ⟨p.1, p.2.1, none⟩ = some p.2.2
 there : ∀ a ∈ var, w.cell? ⟨a.1, a.2, none⟩ = some (valAt w ⟨a.1, a.2, none⟩)
 froz : ∀ a ∈ var, w.frozen? ⟨a.1, a.2, none⟩ = false
 lt : ∀ a ∈ var, a.1 < w.heap.size
 base : B ≤ w.heap.size
 bl : Below B w0 w
theorem Keeps.later {B : Nat} {fix : List (Nat × Nat × Value)} {var : List (Nat × Nat)} {w0 w w' : World} (h : Keeps B fix var w0 w) (hb : Below w.heap.size w w') : Keeps B fix var w0 w' := by
 obtain ⟨h1, h2, h3, h4, h5, h6⟩ := h
 refine ⟨fun p hp => cell_later hb (h1 p hp), fun a ha => ?_, fun a ha => ?_, fun a ha => Nat.lt_of_lt_of_le (h4 a ha) hb.size, Nat.le_trans h5 hb.size, h6.trans (hb.mono h5)⟩
 · exact valAt_some (by rw [cell_later hb (h2 a ha)]; rfl)
 · rw [hb.frozen (p := ⟨a.1, a.2, none⟩) (h4 a ha)]; exact h3 a ha
/-- A store into one of the cells that may be written. -/
theorem Keeps.set {B : Nat} {fix : List (Nat × Nat × Value)} {var : List (Nat × Nat)} {w0 w : World} (h : Keeps B fix var w0 w) (g i : Nat) (v : Value) (hm : (g, i) ∈ var) (hB : B ≤ g) (hf : ∀ p ∈ fix, ¬ p.1 = g) : Keeps B fix var w0 (w.setCell ⟨g, i, none⟩ v) := by
 obtain ⟨h1, h2, h3, h4, h5, h6⟩ := h
 have hg := h2 _ hm
 generalize valAt w ⟨g, i, none⟩ = z at hg
 refine ⟨fun p hp => ?_, fun a ha => ?_, fun a ha => ?_, fun a ha => by simpa [World.setCell] using h4 a ha, by simpa [World.setCell] using h5, h6.setCell hB _⟩
 · have := hf p hp
   rw [World.cell?_setCell_far _ _ _ _ (by simpa using fun e => this e.symm)]; exact h1 p hp
 · apply valAt_some
   obtain ⟨v', hv'⟩ := cell?_setCell_some (w := w) (p := ⟨g, i, none⟩) (x := v) (q := ⟨a.1, a.2, none⟩) (h2 a ha)
   rw [hv']; rfl
 · have := h3 a ha
   go_simp
end Go.Proofs.Ytgkhldbnljdeiaa
namespace Go.Proofs.Ytgkhldbnljdeiaa
open Go.RowKit
attribute [local go_sem] World.setCell_self
attribute [local go_sem ↓] Go.wp_at_zero Go.wp_at_succ
/-- How two integers compare. -/
def cmpI (a b : Int) : Int := if a < b then -1 else if b < a then 1 else 0
theorem pnan64 (x : Int) (w : World) : Calls Try.prog 119 #[.int .i64 x] w fun e w' => e = .returned (.bool false) ∧ w = w' := by
 go_enter Try.func119, Try.ntmps119
 go_wp2
 go_ret
 exact ⟨rfl, rfl⟩
theorem pnanU (x : Int) (w : World) : Calls Try.prog 120 #[.int .u64 x] w fun e w' => e = .returned (.bool false) ∧ w = w' := by
 go_enter Try.func120, Try.ntmps120
 go_wp2
 go_ret
 exact ⟨rfl, rfl⟩
theorem pcmp64 (a b : Int) (w : World) : Calls Try.prog 110 #[.int .i64 a, .int .i64 b] w fun e w' => e = .returned (.int .i64 (cmpI a b)) ∧ w = w' := by
 unfold cmpI
 have N1 := fun w => Lib.hid (pnan64 a w)
 have N2 := fun w => Lib.hid (pnan64 b w)
 by_cases h1 : a < b
 · rw [if_pos h1]
   go_enter Try.func110, Try.ntmps110
   go_wp2_with (first | (go_at_call 119; refine (N1 _).out.mono ?_; rintro e w' ⟨rfl, rfl⟩) | (go_at_call 119; refine (N2 _).out.mono ?_; rintro e w' ⟨rfl, rfl⟩))
   go_ret
   exact ⟨rfl, rfl⟩
 · by_cases h2 : b < a
   · rw [if_neg h1, if_pos h2]
     have h1' : decide (a < b) = false := by simpa using h1
     clear h1
     go_enter Try.func110, Try.ntmps110
     go_wp2_with (first | (go_at_call 119; refine (N1 _).out.mono ?_; rintro e w' ⟨rfl, rfl⟩) | (go_at_call 119; refine (N2 _).out.mono ?_; rintro e w' ⟨rfl, rfl⟩))
     go_ret
     exact ⟨rfl, rfl⟩
   · rw [if_neg h1, if_neg h2]
     have h1' : decide (a < b) = false := by simpa using h1
     have h2' : decide (b < a) = false := by simpa using h2
     clear h1 h2
     go_enter Try.func110, Try.ntmps110
     go_wp2_with (first | (go_at_call 119; refine (N1 _).out.mono ?_; rintro e w' ⟨rfl, rfl⟩) | (go_at_call 119; refine (N2 _).out.mono ?_; rintro e w' ⟨rfl, rfl⟩))
     go_ret
     exact ⟨rfl, rfl⟩
theorem pcmpU (a b : Int) (w : World) : Calls Try.prog 111 #[.int .u64 a, .int .u64 b] w fun e w' => e = .returned (.int .i64 (cmpI a b)) ∧ w = w' := by
 unfold cmpI
 have N1 := fun w => Lib.hid (pnanU a w)
 have N2 := fun w => Lib.hid (pnanU b w)
 by_cases h1 : a < b
 · rw [if_pos h1]
   go_enter Try.func111, Try.ntmps111
   go_wp2_with (first | (go_at_call 120; refine (N1 _).out.mono ?_; rintro e w' ⟨rfl, rfl⟩) | (go_at_call 120; refine (N2 _).out.mono ?_; rintro e w' ⟨rfl, rfl⟩))
   go_ret
   exact ⟨rfl, rfl⟩
 · by_cases h2 : b < a
   · rw [if_neg h1, if_pos h2]
     have h1' : decide (a < b) = false := by simpa using h1
     clear h1
     go_enter Try.func111, Try.ntmps111
     go_wp2_with (first | (go_at_call 120; refine (N1 _).out.mono ?_; rintro e w' ⟨rfl, rfl⟩) | (go_at_call 120; refine (N2 _).out.mono ?_; rintro e w' ⟨rfl, rfl⟩))
     go_ret
     exact ⟨rfl, rfl⟩
   · rw [if_neg h1, if_neg h2]
     have h1' : decide (a < b) = false := by simpa using h1
     have h2' : decide (b < a) = false := by simpa using h2
     clear h1 h2
     go_enter Try.func111, Try.ntmps111
     go_wp2_with (first | (go_at_call 120; refine (N1 _).out.mono ?_; rintro e w' ⟨rfl, rfl⟩) | (go_at_call 120; refine (N2 _).out.mono ?_; rintro e w' ⟨rfl, rfl⟩))
     go_ret
     exact ⟨rfl, rfl⟩
/-- cmp.Or of two numbers. -/
def orI (x y : Int) : Int := if x = 0 then y else x
theorem por (x y : Int) (g cap : Nat) (w : World) (c0 : w.cell? ⟨g, 0, none⟩ = some (.int .i64 x)) (c1 : w.cell? ⟨g, 1, none⟩ = some (.int .i64 y)) :
   Calls Try.prog 109 #[.slice (some ⟨g, 0, none⟩) 2 cap] w fun e w' => e = .returned (.int .i64 (orI x y)) ∧ w = w' := by
 unfold orI
 have key : ∀ z, (if x = 0 then y else x) = z → Calls Try.prog 109 #[.slice (some ⟨g, 0, none⟩) 2 cap] w (fun e w' => e = .returned (.int .i64 z) ∧ w = w') → Calls Try.prog 109 #[.slice (some ⟨g, 0, none⟩) 2 cap] w (fun e w' => e = .returned (.int .i64 (if x = 0 then y else x)) ∧ w = w') := by
   rintro z rfl h; exact h
 by_cases h : x = 0
 · subst h
   by_cases h' : y = 0
   · subst h'
     refine key 0 rfl ?_
     clear key
     go_enter Try.func109, Try.ntmps109
     go_wp2_with fail
     go_loop [8] (fun i => i = .int .i64 0 ∨ i = .int .i64 1 ∨ i = .int .i64 2) (fun i => (2 - intOf i).toNat)
     case atStart => exact .inl rfl
     case round =>
       rcases hrel with rfl | rfl | rfl
       · go_wp2
         go_round
         case rel => exact .inr (.inl rfl)
         case measure => simp [intOf]
       · go_wp2
         go_round
         case rel => exact .inr (.inr rfl)
         case measure => simp [intOf]
       · go_wp2
         go_ret
         exact ⟨rfl, rfl⟩
   · refine key y (if_pos rfl) ?_
     have hy : (y != 0) = true := by simpa using h'
     clear key h'
     go_enter Try.func109, Try.ntmps109
     go_wp2_with fail
     go_loop [8] (fun i => i = .int .i64 0 ∨ i = .int .i64 1) (fun i => (2 - intOf i).toNat)
     case atStart => exact .inl rfl
     case round =>
       rcases hrel with rfl | rfl
       · go_wp2
         go_round
         case rel => exact .inr rfl
         case measure => simp [intOf]
       · go_wp2
         go_ret
         exact ⟨rfl, rfl⟩
 · refine key x (if_neg h) ?_
   have hx : (x != 0) = true := by simpa using h
   clear key h
   go_enter Try.func109, Try.ntmps109
   go_wp2_with fail
   go_loop [8] (fun i => i = .int .i64 0) (fun i => (2 - intOf i).toNat)
   case atStart => exact rfl
   case round =>
     obtain rfl := hrel
     go_wp2
     go_ret
     exact ⟨rfl, rfl⟩
theorem pcompare_words (p q r s x y z : Int) (w : World) (C1 : ∀ w, Hid (Calls Try.prog 110 #[.int .i64 p, .int .i64 r] w fun e w' => e = .returned (.int .i64 x) ∧ w = w')) (C2 : ∀ w, Hid (Calls Try.prog 111 #[.int .u64 q, .int .u64 s] w fun e w' => e = .returned (.int .i64 y) ∧ w = w'))
   (O : ∀ (g cap : Nat) (w : World), w.cell? ⟨g, 0, none⟩ = some (.int .i64 x) → w.cell? ⟨g, 1, none⟩ = some (.int .i64 y) → Calls Try.prog 109 #[.slice (some ⟨g, 0, none⟩) 2 cap] w fun e w' => e = .returned (.int .i64 z) ∧ w = w') :
   Calls Try.prog 68 #[.agg #[.int .i64 p, .int .u64 q], .agg #[.int .i64 r, .int .u64 s]] w fun e w' => e = .returned (.int .i64 z) ∧ Below w.heap.size w w' := by
 have O := Lib.hid O
 go_enter Try.func68, Try.ntmps68
 go_wp2_with fail
 have ID : Keeps (w.heap.size) [(w.heap.size, 0, .int .i64 p), (w.heap.size, 1, .int .u64 q), (w.heap.size + 1, 0, .int .i64 r), (w.heap.size + 1, 1, .int .u64 s)] [] w ((w.alloc (.cells #[.int .i64 p, .int .u64 q] 79)).alloc (.cells #[.int .i64 r, .int .u64 s] 79)).drew := by
   refine ⟨?_, by simp, by simp, by simp, by simp; omega, (((Below.refl _ _).alloc (Nat.le_refl _) _).alloc (by simp) _).drew⟩
   simp only [fm, nm, false_imp_iff, implies_true, and_true]
   exact ⟨by go_simp, by go_simp, by go_simp, by go_simp⟩
 generalize ((w.alloc (.cells #[.int .i64 p, .int .u64 q] 79)).alloc (.cells #[.int .i64 r, .int .u64 s] 79)) = W at *
 refine wp_region_held_drew (S := fun w' => w'.cell? ⟨w.heap.size, 0, none⟩ = some (.int .i64 p) ∧ w'.cell? ⟨w.heap.size, 1, none⟩ = some (.int .u64 q) ∧ w'.cell? ⟨w.heap.size + 1, 0, none⟩ = some (.int .i64 r) ∧ w'.cell? ⟨w.heap.size + 1, 1, none⟩ = some (.int .u64 s) ∧ Keeps (w.heap.size) [(w.heap.size, 0, .int .i64 p), (w.heap.size, 1, .int .u64 q), (w.heap.size + 1, 0, .int .i64 r), (w.heap.size + 1, 1, .int .u64 s)] [] w w') (by kernel_rfl) ⟨(ID).fixed (w.heap.size, 0, .int .i64 p) (by simp), (ID).fixed (w.heap.size, 1, .int .u64 q) (by simp), (ID).fixed (w.heap.size + 1, 0, .int .i64 r) (by simp), (ID).fixed (w.heap.size + 1, 1, .int .u64 s) (by simp), ID⟩ (fun hHeld => ?_)
 refine tk (i := 0) (v := ?_) rfl (by kernel_rfl) (by kernel_rfl) (by kernel_rfl) (fun _ _ _ h => h) (Or.inl ⟨by rfl, ?_⟩) (by assumption) ?_
 rotate_left
 focus (intro w' hSw; (try dsimp only at hSw); go_simp; try with_reducible rfl)
 try simp only [Act.put, p1, p2, p3, p4, p5, p6]
 refine tk (i := 1) (v := ?_) rfl (by kernel_rfl) (by kernel_rfl) (by kernel_rfl) (fun _ _ _ h => h) (Or.inl ⟨by rfl, ?_⟩) (by assumption) ?_
 rotate_left
 focus (intro w' hSw; (try dsimp only at hSw); go_simp; try with_reducible rfl)
 try simp only [Act.put, p1, p2, p3, p4, p5, p6]
 refine tk (i := 2) (v := ?_) rfl (by kernel_rfl) (by kernel_rfl) (by kernel_rfl) (fun _ _ _ h => h) (Or.inl ⟨by rfl, ?_⟩) (by assumption) ?_
 rotate_left
 focus (intro w' hSw; (try dsimp only at hSw); go_simp; try with_reducible rfl)
 try simp only [Act.put, p1, p2, p3, p4, p5, p6]
 refine tk (i := 3) (v := ?_) rfl (by kernel_rfl) (by kernel_rfl) (by kernel_rfl) (fun _ _ _ h => h) (Or.inl ⟨by rfl, ?_⟩) (by assumption) ?_
 rotate_left
 focus (intro w' hSw; (try dsimp only at hSw); go_simp; try with_reducible rfl)
 try simp only [Act.put, p1, p2, p3, p4, p5, p6]
 refine tk (i := 5) (v := ?_) rfl (by kernel_rfl) (by kernel_rfl) (by kernel_rfl) (fun _ _ _ h => h) (Or.inl ⟨by rfl, ?_⟩) (by assumption) ?_
 rotate_left
 focus (intro w' hSw; (try dsimp only at hSw); go_simp; try with_reducible rfl)
 try simp only [Act.put, p1, p2, p3, p4, p5, p6]
 refine tk (i := 6) (v := ?_) rfl (by kernel_rfl) (by kernel_rfl) (by kernel_rfl) (fun _ _ _ h => h) (Or.inl ⟨by rfl, ?_⟩) (by assumption) ?_
 rotate_left
 focus (intro w' hSw; (try dsimp only at hSw); go_simp; try with_reducible rfl)
 try simp only [Act.put, p1, p2, p3, p4, p5, p6]
 refine tk (i := 7) (v := ?_) rfl (by kernel_rfl) (by kernel_rfl) (by kernel_rfl) (fun _ _ _ h => h) (Or.inl ⟨by rfl, ?_⟩) (by assumption) ?_
 rotate_left
 focus (intro w' hSw; (try dsimp only at hSw); go_simp; try with_reducible rfl)
 try simp only [Act.put, p1, p2, p3, p4, p5, p6]
 refine tk (i := 8) (v := ?_) rfl (by kernel_rfl) (by kernel_rfl) (by kernel_rfl) (fun _ _ _ h => h) (Or.inl ⟨by rfl, ?_⟩) (by assumption) ?_
 rotate_left
 focus (intro w' hSw; (try dsimp only at hSw); go_simp; try with_reducible rfl)
 try simp only [Act.put, p1, p2, p3, p4, p5, p6]
 refine rd (rs := [4]) (by kernel_rfl) (by simp) ?_
 refine AllReadyH.cons rfl (fun K hK => ?_) AllReadyH.nil
 go_simp
 go_at_call 110
 refine ((C1 _).out).mono ?_
 rintro eq1 wq1 ⟨rfl, rfl⟩
 go_wp2_with fail
 refine hK.out _ _ ⟨(ID).fixed (w.heap.size, 0, .int .i64 p) (by simp), (ID).fixed (w.heap.size, 1, .int .u64 q) (by simp), (ID).fixed (w.heap.size + 1, 0, .int .i64 r) (by simp), (ID).fixed (w.heap.size + 1, 1, .int .u64 s) (by simp), ID⟩ (fun hHeld => ?_)
 clear hK K
 try simp only [Act.put, p1, p2, p3, p4, p5, p6]
 refine rd (rs := [9]) (by kernel_rfl) (by simp) ?_
 refine AllReadyH.cons rfl (fun K hK => ?_) AllReadyH.nil
 go_simp
 go_at_call 111
 refine ((C2 _).out).mono ?_
 rintro eq2 wq2 ⟨rfl, rfl⟩
 go_wp2_with fail
 refine hK.out _ _ ⟨(ID).fixed (w.heap.size, 0, .int .i64 p) (by simp), (ID).fixed (w.heap.size, 1, .int .u64 q) (by simp), (ID).fixed (w.heap.size + 1, 0, .int .i64 r) (by simp), (ID).fixed (w.heap.size + 1, 1, .int .u64 s) (by simp), ID⟩ (fun hHeld => ?_)
 clear hK K
 try simp only [Act.put, p1, p2, p3, p4, p5, p6]
 refine rd (rs := [10]) (by kernel_rfl) (by simp) ?_
 refine AllReadyH.cons rfl (fun K hK => ?_) AllReadyH.nil
 go_simp
 refine hK.out _ _ ⟨(((ID).later ((Below.refl _ _).alloc (Nat.le_refl _) _))).fixed (w.heap.size, 0, .int .i64 p) (by simp), (((ID).later ((Below.refl _ _).alloc (Nat.le_refl _) _))).fixed (w.heap.size, 1, .int .u64 q) (by simp), (((ID).later ((Below.refl _ _).alloc (Nat.le_refl _) _))).fixed (w.heap.size + 1, 0, .int .i64 r) (by simp), (((ID).later ((Below.refl _ _).alloc (Nat.le_refl _) _))).fixed (w.heap.size + 1, 1, .int .u64 s) (by simp), ((ID).later ((Below.refl _ _).alloc (Nat.le_refl _) _))⟩ (fun hHeld => ?_)
 clear hK K
 try simp only [Act.put, p1, p2, p3, p4, p5, p6]
 refine rd (rs := [11]) (by kernel_rfl) (by simp) ?_
 refine AllReadyH.cons rfl (fun K hK => ?_) AllReadyH.nil
 go_simp
 go_at_call 109
 refine ((O.out _ _ _ (by go_simp) (by go_simp))).mono ?_
 rintro eq4 wq4 ⟨rfl, rfl⟩
 go_wp2_with fail
 refine hK.out _ _ ⟨(((ID).later ((Below.refl _ _).alloc (Nat.le_refl _) _))).fixed (w.heap.size, 0, .int .i64 p) (by simp), (((ID).later ((Below.refl _ _).alloc (Nat.le_refl _) _))).fixed (w.heap.size, 1, .int .u64 q) (by simp), (((ID).later ((Below.refl _ _).alloc (Nat.le_refl _) _))).fixed (w.heap.size + 1, 0, .int .i64 r) (by simp), (((ID).later ((Below.refl _ _).alloc (Nat.le_refl _) _))).fixed (w.heap.size + 1, 1, .int .u64 s) (by simp), ((ID).later ((Below.refl _ _).alloc (Nat.le_refl _) _))⟩ (fun hHeld => ?_)
 clear hK K
 try simp only [Act.put, p1, p2, p3, p4, p5, p6]
 refine tk (i := 12) (v := ?_) rfl (by kernel_rfl) (by kernel_rfl) (by kernel_rfl) (fun _ _ _ h => h) (Or.inl ⟨by rfl, ?_⟩) (by assumption) ?_
 rotate_left
 focus (intro w' hSw; (try dsimp only at hSw); go_simp; try with_reducible rfl)
 try simp only [Act.put, p1, p2, p3, p4, p5, p6]
 refine wpAnyH_done (by kernel_rfl) ?_ _
 go_wp2
 go_ret
 exact ⟨rfl, (ID.later ((Below.refl _ _).alloc (Nat.le_refl _) _)).bl⟩
/-- Numbers compare as their words do. -/
theorem cmp_words (v u : Int) : orI (cmpI (v / 18446744073709551616) (u / 18446744073709551616)) (cmpI (v % 18446744073709551616) (u % 18446744073709551616)) = cmpI v u := by
 unfold orI cmpI
 repeat' split
 all_goals omega
theorem pcompare (v u : Int) (w : World) : Calls Try.prog 68 #[numV v, numV u] w fun e w' => e = .returned (.int .i64 (cmpI v u)) ∧ Below w.heap.size w w' := by
 rw [← cmp_words]
 exact pcompare_words _ _ _ _ _ _ _ w (fun w => Lib.hid (pcmp64 _ _ w)) (fun w => Lib.hid (pcmpU _ _ w)) (fun g cap w c0 c1 => por _ _ g cap w c0 c1)
end Go.Proofs.Ytgkhldbnljdeiaa
namespace Go.Proofs.Ytgkhldbnljdeiaa
open Go.RowKit
attribute [local go_sem] World.setCell_self
attribute [local go_sem ↓] Go.wp_at_zero Go.wp_at_succ
/-- The cells of a slice of numbers. -/
def NumsAt (w : World) (g : Nat) (l : List Int) : Prop := ∀ i, i < l.length → w.cell? ⟨g, i * 2, none⟩ = some (.int .i64 (l.getD i 0 / 18446744073709551616)) ∧ w.cell? ⟨g, i * 2 + 1, none⟩ = some (.int .u64 (l.getD i 0 % 18446744073709551616))
theorem NumsAt.later {w wx : World} {g : Nat} {l : List Int} {B : Nat} (h : NumsAt w g l) (hg : g < B) (hb : Below B w wx) : NumsAt wx g l := fun i hi =>
 ⟨by rw [hb.cell (p := ⟨g, i * 2, none⟩) hg]; exact (h i hi).1, by rw [hb.cell (p := ⟨g, i * 2 + 1, none⟩) hg]; exact (h i hi).2⟩
/-- The least of the first numbers, and the greatest. -/
def minTo (l : List Int) : Nat → Int
 | 0 => l.getD 0 0
 | k + 1 => min (minTo l k) (l.getD (k + 1) 0)
def maxTo (l : List Int) : Nat → Int
 | 0 => l.getD 0 0
 | k + 1 => max (maxTo l k) (l.getD (k + 1) 0)
/-- Both words of a number in a variable of the call's own are written. -/
theorem Keeps.put2 {B : Nat} {fix : List (Nat × Nat × Value)} {var : List (Nat × Nat)} {w0 w : World} (h : Keeps B fix var w0 w) (g : Nat) (v0 v1 : Value) (m0 : (g, 0) ∈ var) (m1 : (g, 1) ∈ var) (hB : B ≤ g) :
   Keeps B [(g, 0, v0), (g, 1, v1)] var w0 ((w.setCell ⟨g, 0, none⟩ v0).setCell ⟨g, 1, none⟩ v1) := by
 have h' : Keeps B [] var w0 w := ⟨by simp, h.there, h.froz, h.lt, h.base, h.bl⟩
 have k := (h'.set g 0 v0 m0 hB (by simp)).set g 1 v1 m1 hB (by simp)
 have c0 := h.there _ m0
 have c1 := h.there _ m1
 generalize valAt w ⟨(g, 0).1, (g, 0).2, none⟩ = z0 at c0
 generalize valAt w ⟨(g, 1).1, (g, 1).2, none⟩ = z1 at c1
 dsimp only at c0 c1
 refine ⟨?_, k.there, k.froz, k.lt, k.base, k.bl⟩
 simp only [fm, nm, false_imp_iff, implies_true, and_true]
 exact ⟨by go_simp, by go_simp⟩
theorem pmin_of (l : List Int) (g cap : Nat) (w : World) (hg : g < w.heap.size) (h0 : 0 < l.length) (hn : l.length ≤ 100) (hcap : l.length ≤ cap) (H : Hid (NumsAt w g l)) :
   Calls Try.prog 67 #[.slice (some ⟨g, 0, none⟩) l.length cap, .func (.func 68) #[] #[]] w fun e w' => e = .returned (numV (minTo l (l.length - 1))) ∧ Below w.heap.size w w' := by
 obtain ⟨n, hnl⟩ : ∃ n, n = l.length := ⟨_, rfl⟩
 rw [← hnl] at h0 hn hcap ⊢
 have HN := Lib.hid hnl
 clear hnl
 have c0 : w.cell? ⟨g, 0, none⟩ = some (.int .i64 (l.getD 0 0 / 18446744073709551616)) := by have := (H.out 0 (by rw [← HN.out]; exact h0)).1; simpa using this
 have c1 : w.cell? ⟨g, 1, none⟩ = some (.int .u64 (l.getD 0 0 % 18446744073709551616)) := by have := (H.out 0 (by rw [← HN.out]; exact h0)).2; simpa using this
 have HP : Hid (l.getD 0 0 / 18446744073709551616 = minTo l 0 / 18446744073709551616 ∧ l.getD 0 0 % 18446744073709551616 = minTo l 0 % 18446744073709551616) := Lib.hid ⟨rfl, rfl⟩
 generalize l.getD 0 0 / 18446744073709551616 = p0 at *
 generalize l.getD 0 0 % 18446744073709551616 = q0 at *
 have h0' : (0 : Int) < n := by omega
 have h0'' : ¬ (n : Int) < 1 := by omega
 go_enter Try.func67, Try.ntmps67
 go_wp2_with fail
 have KS : (fun p q => Keeps w.heap.size [(w.heap.size + 1, 0, .int .i64 p), (w.heap.size + 1, 1, .int .u64 q)] [(w.heap.size + 1, 0), (w.heap.size + 1, 1), (w.heap.size, 0), (w.heap.size, 1)] w) p0 q0 ((w.alloc (.cells #[.int .i64 0, .int .u64 0] 79)).alloc (.cells #[.int .i64 p0, .int .u64 q0] 79)) := by
   refine ⟨?_, ?_, ?_, ?_, by simp; omega, ((Below.refl _ _).alloc (Nat.le_refl _) _).alloc (by simp) _⟩
   · simp only [fm, nm, false_imp_iff, implies_true, and_true]
     exact ⟨by go_simp, by go_simp⟩
   · simp only [fm, nm, false_imp_iff, implies_true, and_true]
     exact ⟨valAt_some (by go_simp), valAt_some (by go_simp), valAt_some (by go_simp), valAt_some (by go_simp)⟩
   · simp only [fm, nm, false_imp_iff, implies_true, and_true]
     exact ⟨by go_simp, by go_simp, by go_simp, by go_simp⟩
   · simp only [fm, nm, false_imp_iff, implies_true, and_true]
     exact ⟨by simp, by simp, by simp; omega, by simp; omega⟩
 have KS := Lib.hid KS
 clear c0 c1
 go_loopw [6] (fun i wr => ∃ (t : Nat) (p q : Int), i = .int .i64 ((t : Int) + 1) ∧ t + 1 ≤ n ∧ Hid (p = minTo l t / 18446744073709551616 ∧ q = minTo l t % 18446744073709551616) ∧ Keeps w.heap.size [(w.heap.size + 1, 0, .int .i64 p), (w.heap.size + 1, 1, .int .u64 q)] [(w.heap.size + 1, 0), (w.heap.size + 1, 1), (w.heap.size, 0), (w.heap.size, 1)] w wr) (fun i _ => (n - intOf i).toNat)
 case atStart => exact ⟨0, p0, q0, rfl, by omega, HP, KS.out⟩
 case round =>
   clear KS HP
   obtain ⟨t, p, q, rfl, htn, HM, K⟩ := hrel
   by_cases hlt : t + 1 < n
   · obtain ⟨x, hx⟩ : ∃ x, x = l.getD (t + 1) 0 := ⟨_, rfl⟩
     obtain ⟨m, hm⟩ : ∃ m, m = minTo l t := ⟨_, rfl⟩
     have hlz : (t : Int) + 1 < (n : Int) := by omega
     obtain ⟨iN, hiN⟩ : ∃ q, q = t + 1 := ⟨_, rfl⟩
     have ea : ((t : Int) + 1).toNat = iN := by omega
     have pa : (0 : Int) ≤ (t : Int) + 1 := by omega
     have ra : IntKind.i64.wrap ((t : Int) + 1) = (t : Int) + 1 := by rw [IntKind.wrap_i64]; omega
     have cx := H.out iN (by rw [← HN.out]; omega)
     rw [hiN, ← hx, ← hiN] at cx
     obtain ⟨x0, hx0⟩ : ∃ z, z = x / 18446744073709551616 := ⟨_, rfl⟩
     obtain ⟨x1, hx1⟩ : ∃ z, z = x % 18446744073709551616 := ⟨_, rfl⟩
     rw [← hx0, ← hx1] at cx
     have k0 : wr.cell? ⟨g, iN * 2, none⟩ = some (.int .i64 x0) := (K.bl.cell (p := ⟨g, iN * 2, none⟩) hg).trans cx.1
     have k1 : wr.cell? ⟨g, iN * 2 + 1, none⟩ = some (.int .u64 x1) := (K.bl.cell (p := ⟨g, iN * 2 + 1, none⟩) hg).trans cx.2
     have ID : Keeps w.heap.size [(g, iN * 2, .int .i64 x0), (g, iN * 2 + 1, .int .u64 x1), (w.heap.size + 1, 0, .int .i64 p), (w.heap.size + 1, 1, .int .u64 q)] [(w.heap.size + 1, 0), (w.heap.size + 1, 1), (w.heap.size, 0), (w.heap.size, 1)] w wr.drew := by
       have K' := K.later (Below.refl _ _).drew
       refine ⟨?_, K'.there, K'.froz, K'.lt, K'.base, K'.bl⟩
       intro z hz
       simp only [List.mem_cons, List.not_mem_nil, or_false] at hz
       rcases hz with rfl | rfl | rfl | rfl
       · exact k0
       · exact k1
       · exact K'.fixed _ (by simp)
       · exact K'.fixed _ (by simp)
     have CC := pcompare x m
     unfold numV at CC
     have C : ∀ w, Hid (Calls Try.prog 68 #[.agg #[.int .i64 x0, .int .u64 x1], .agg #[.int .i64 p, .int .u64 q]] w fun e w' => e = .returned (.int .i64 (cmpI x m)) ∧ Below w.heap.size w w') := by
       intro w
       rw [hx0, hx1, HM.out.1, HM.out.2, ← hm]
       exact Lib.hid (CC w)
     have HX0 := Lib.hid hx0
     have HX1 := Lib.hid hx1
     have HiN := Lib.hid hiN
     have hs : minTo l (t + 1) = min m x := by rw [hm, hx]; rfl
     have HS0 := Lib.hid hs
     have Hm := Lib.hid hm
     clear CC cx K k0 k1 hx0 hx1 hiN hx hm hs
     by_cases hq : x < m
     · have hc : cmpI x m < 0 := by unfold cmpI; split <;> first | omega | (split <;> omega)
       have HS : Hid (minTo l (t + 1) = x) := Lib.hid (HS0.out.trans (by omega))
       generalize cmpI x m = c at *
       clear hq HS0
       go_wp2_with fail
       refine wp_region_held_drew (S := fun w' => w'.cell? ⟨g, iN * 2, none⟩ = some (.int .i64 x0) ∧ w'.cell? ⟨g, iN * 2 + 1, none⟩ = some (.int .u64 x1) ∧ w'.cell? ⟨w.heap.size + 1, 0, none⟩ = some (.int .i64 p) ∧ w'.cell? ⟨w.heap.size + 1, 1, none⟩ = some (.int .u64 q) ∧ w'.cell? ⟨w.heap.size + 1, 0, none⟩ = some (valAt w' ⟨w.heap.size + 1, 0, none⟩) ∧ w'.cell? ⟨w.heap.size + 1, 1, none⟩ = some (valAt w' ⟨w.heap.size + 1, 1, none⟩) ∧ w'.cell? ⟨w.heap.size, 0, none⟩ = some (valAt w' ⟨w.heap.size, 0, none⟩) ∧ w'.cell? ⟨w.heap.size, 1, none⟩ = some (valAt w' ⟨w.heap.size, 1, none⟩) ∧ w'.frozen? ⟨w.heap.size + 1, 0, none⟩ = false ∧ w'.frozen? ⟨w.heap.size + 1, 1, none⟩ = false ∧ w'.frozen? ⟨w.heap.size, 0, none⟩ = false ∧ w'.frozen? ⟨w.heap.size, 1, none⟩ = false ∧ w.heap.size + 1 < w'.heap.size ∧ w.heap.size < w'.heap.size ∧ Keeps (w.heap.size) [(g, iN * 2, .int .i64 x0), (g, iN * 2 + 1, .int .u64 x1), (w.heap.size + 1, 0, .int .i64 p), (w.heap.size + 1, 1, .int .u64 q)] [(w.heap.size + 1, 0), (w.heap.size + 1, 1), (w.heap.size, 0), (w.heap.size, 1)] w w') (by kernel_rfl) ⟨(ID).fixed (g, iN * 2, .int .i64 x0) (by simp), (ID).fixed (g, iN * 2 + 1, .int .u64 x1) (by simp), (ID).fixed (w.heap.size + 1, 0, .int .i64 p) (by simp), (ID).fixed (w.heap.size + 1, 1, .int .u64 q) (by simp), (ID).there (w.heap.size + 1, 0) (by simp), (ID).there (w.heap.size + 1, 1) (by simp), (ID).there (w.heap.size, 0) (by simp), (ID).there (w.heap.size, 1) (by simp), (ID).froz (w.heap.size + 1, 0) (by simp), (ID).froz (w.heap.size + 1, 1) (by simp), (ID).froz (w.heap.size, 0) (by simp), (ID).froz (w.heap.size, 1) (by simp), (ID).lt (w.heap.size + 1, 0) (by simp), (ID).lt (w.heap.size, 0) (by simp), ID⟩ (fun hHeld => ?_)
       refine tk (i := 0) (v := ?_) rfl (by kernel_rfl) (by kernel_rfl) (by kernel_rfl) (fun _ _ _ h => h) (Or.inl ⟨by rfl, ?_⟩) (by assumption) ?_
       rotate_left
       focus (intro w' hSw; (try dsimp only at hSw); go_simp; try with_reducible rfl)
       try simp only [Act.put, p1, p2, p3, p4, p5, p6]
       refine tk (i := 1) (v := ?_) rfl (by kernel_rfl) (by kernel_rfl) (by kernel_rfl) (fun _ _ _ h => h) (Or.inl ⟨by rfl, ?_⟩) (by assumption) ?_
       rotate_left
       focus (intro w' hSw; (try dsimp only at hSw); go_simp; try with_reducible rfl)
       try simp only [Act.put, p1, p2, p3, p4, p5, p6]
       refine tk (i := 2) (v := ?_) rfl (by kernel_rfl) (by kernel_rfl) (by kernel_rfl) (fun _ _ _ h => h) (Or.inl ⟨by rfl, ?_⟩) (by assumption) ?_
       rotate_left
       focus (intro w' hSw; (try dsimp only at hSw); go_simp; try with_reducible rfl)
       try simp only [Act.put, p1, p2, p3, p4, p5, p6]
       refine tk (i := 3) (v := ?_) rfl (by kernel_rfl) (by kernel_rfl) (by kernel_rfl) (fun _ _ _ h => h) (Or.inl ⟨by rfl, ?_⟩) (by assumption) ?_
       rotate_left
       focus (intro w' hSw; (try dsimp only at hSw); go_simp; try with_reducible rfl)
       try simp only [Act.put, p1, p2, p3, p4, p5, p6]
       refine tk (i := 4) (v := ?_) rfl (by kernel_rfl) (by kernel_rfl) (by kernel_rfl) (fun _ _ _ h => h) (Or.inl ⟨by rfl, ?_⟩) (by assumption) ?_
       rotate_left
       focus (intro w' hSw; (try dsimp only at hSw); go_simp; try with_reducible rfl)
       try simp only [Act.put, p1, p2, p3, p4, p5, p6]
       refine tk (i := 5) (v := ?_) rfl (by kernel_rfl) (by kernel_rfl) (by kernel_rfl) (fun _ _ _ h => h) (Or.inl ⟨by rfl, ?_⟩) (by assumption) ?_
       rotate_left
       focus (intro w' hSw; (try dsimp only at hSw); go_simp; try with_reducible rfl)
       try simp only [Act.put, p1, p2, p3, p4, p5, p6]
       refine rd (rs := [6]) (by kernel_rfl) (by simp) ?_
       refine AllReadyH.cons rfl (fun K hK => ?_) AllReadyH.nil
       go_simp
       go_at_call 68
       refine ((C _).out).mono ?_
       rintro eq1 wq1 ⟨rfl, hB1⟩
       have I1 := Lib.hid ((ID).later (hB1))
       clear hB1
       go_wp2_with fail
       refine hK.out _ _ ⟨(I1.out).fixed (g, iN * 2, .int .i64 x0) (by simp), (I1.out).fixed (g, iN * 2 + 1, .int .u64 x1) (by simp), (I1.out).fixed (w.heap.size + 1, 0, .int .i64 p) (by simp), (I1.out).fixed (w.heap.size + 1, 1, .int .u64 q) (by simp), (I1.out).there (w.heap.size + 1, 0) (by simp), (I1.out).there (w.heap.size + 1, 1) (by simp), (I1.out).there (w.heap.size, 0) (by simp), (I1.out).there (w.heap.size, 1) (by simp), (I1.out).froz (w.heap.size + 1, 0) (by simp), (I1.out).froz (w.heap.size + 1, 1) (by simp), (I1.out).froz (w.heap.size, 0) (by simp), (I1.out).froz (w.heap.size, 1) (by simp), (I1.out).lt (w.heap.size + 1, 0) (by simp), (I1.out).lt (w.heap.size, 0) (by simp), I1.out⟩ (fun hHeld => ?_)
       clear hK K
       try simp only [Act.put, p1, p2, p3, p4, p5, p6]
       refine tk (i := 7) (v := ?_) rfl (by kernel_rfl) (by kernel_rfl) (by kernel_rfl) (fun _ _ _ h => h) (Or.inl ⟨by rfl, ?_⟩) (by assumption) ?_
       rotate_left
       focus (intro w' hSw; (try dsimp only at hSw); go_simp; try with_reducible rfl)
       try simp only [Act.put, p1, p2, p3, p4, p5, p6]
       refine wpAnyH_done (by kernel_rfl) ?_ _
       have m0 := I1.out.fixed (w.heap.size + 1, 0, .int .i64 p) (by simp)
       have m1 := I1.out.fixed (w.heap.size + 1, 1, .int .u64 q) (by simp)
       have d0 := I1.out.fixed (g, iN * 2, .int .i64 x0) (by simp)
       have d1 := I1.out.fixed (g, iN * 2 + 1, .int .u64 x1) (by simp)
       have f0 := I1.out.froz (w.heap.size + 1, 0) (by simp)
       have f1 := I1.out.froz (w.heap.size + 1, 1) (by simp)
       dsimp only at m0 m1 d0 d1 f0 f1
       clear hHeld ID C
       go_wp2
       go_roundw
       case rel => exact ⟨t + 1, x0, x1, congrArg (Value.int IntKind.i64) (by omega), by omega, Lib.hid ⟨by rw [HX0.out, HS.out], by rw [HX1.out, HS.out]⟩, I1.out.put2 (w.heap.size + 1) (.int .i64 x0) (.int .u64 x1) (by simp) (by simp) (by omega)⟩
       case measure => simp [intOf]; omega
     · have hc : decide (cmpI x m < 0) = false := by simp only [decide_eq_false_iff_not]; unfold cmpI; split <;> first | omega | (split <;> omega)
       have HS : Hid (minTo l (t + 1) = minTo l t) := Lib.hid ((HS0.out.trans (by omega)).trans Hm.out)
       generalize cmpI x m = c at *
       clear hq HS0
       go_wp2_with fail
       refine wp_region_held_drew (S := fun w' => w'.cell? ⟨g, iN * 2, none⟩ = some (.int .i64 x0) ∧ w'.cell? ⟨g, iN * 2 + 1, none⟩ = some (.int .u64 x1) ∧ w'.cell? ⟨w.heap.size + 1, 0, none⟩ = some (.int .i64 p) ∧ w'.cell? ⟨w.heap.size + 1, 1, none⟩ = some (.int .u64 q) ∧ w'.cell? ⟨w.heap.size + 1, 0, none⟩ = some (valAt w' ⟨w.heap.size + 1, 0, none⟩) ∧ w'.cell? ⟨w.heap.size + 1, 1, none⟩ = some (valAt w' ⟨w.heap.size + 1, 1, none⟩) ∧ w'.cell? ⟨w.heap.size, 0, none⟩ = some (valAt w' ⟨w.heap.size, 0, none⟩) ∧ w'.cell? ⟨w.heap.size, 1, none⟩ = some (valAt w' ⟨w.heap.size, 1, none⟩) ∧ w'.frozen? ⟨w.heap.size + 1, 0, none⟩ = false ∧ w'.frozen? ⟨w.heap.size + 1, 1, none⟩ = false ∧ w'.frozen? ⟨w.heap.size, 0, none⟩ = false ∧ w'.frozen? ⟨w.heap.size, 1, none⟩ = false ∧ w.heap.size + 1 < w'.heap.size ∧ w.heap.size < w'.heap.size ∧ Keeps (w.heap.size) [(g, iN * 2, .int .i64 x0), (g, iN * 2 + 1, .int .u64 x1), (w.heap.size + 1, 0, .int .i64 p), (w.heap.size + 1, 1, .int .u64 q)] [(w.heap.size + 1, 0), (w.heap.size + 1, 1), (w.heap.size, 0), (w.heap.size, 1)] w w') (by kernel_rfl) ⟨(ID).fixed (g, iN * 2, .int .i64 x0) (by simp), (ID).fixed (g, iN * 2 + 1, .int .u64 x1) (by simp), (ID).fixed (w.heap.size + 1, 0, .int .i64 p) (by simp), (ID).fixed (w.heap.size + 1, 1, .int .u64 q) (by simp), (ID).there (w.heap.size + 1, 0) (by simp), (ID).there (w.heap.size + 1, 1) (by simp), (ID).there (w.heap.size, 0) (by simp), (ID).there (w.heap.size, 1) (by simp), (ID).froz (w.heap.size + 1, 0) (by simp), (ID).froz (w.heap.size + 1, 1) (by simp), (ID).froz (w.heap.size, 0) (by simp), (ID).froz (w.heap.size, 1) (by simp), (ID).lt (w.heap.size + 1, 0) (by simp), (ID).lt (w.heap.size, 0) (by simp), ID⟩ (fun hHeld => ?_)
       refine tk (i := 0) (v := ?_) rfl (by kernel_rfl) (by kernel_rfl) (by kernel_rfl) (fun _ _ _ h => h) (Or.inl ⟨by rfl, ?_⟩) (by assumption) ?_
       rotate_left
       focus (intro w' hSw; (try dsimp only at hSw); go_simp; try with_reducible rfl)
       try simp only [Act.put, p1, p2, p3, p4, p5, p6]
       refine tk (i := 1) (v := ?_) rfl (by kernel_rfl) (by kernel_rfl) (by kernel_rfl) (fun _ _ _ h => h) (Or.inl ⟨by rfl, ?_⟩) (by assumption) ?_
       rotate_left
       focus (intro w' hSw; (try dsimp only at hSw); go_simp; try with_reducible rfl)
       try simp only [Act.put, p1, p2, p3, p4, p5, p6]
       refine tk (i := 2) (v := ?_) rfl (by kernel_rfl) (by kernel_rfl) (by kernel_rfl) (fun _ _ _ h => h) (Or.inl ⟨by rfl, ?_⟩) (by assumption) ?_
       rotate_left
       focus (intro w' hSw; (try dsimp only at hSw); go_simp; try with_reducible rfl)
       try simp only [Act.put, p1, p2, p3, p4, p5, p6]
       refine tk (i := 3) (v := ?_) rfl (by kernel_rfl) (by kernel_rfl) (by kernel_rfl) (fun _ _ _ h => h) (Or.inl ⟨by rfl, ?_⟩) (by assumption) ?_
       rotate_left
       focus (intro w' hSw; (try dsimp only at hSw); go_simp; try with_reducible rfl)
       try simp only [Act.put, p1, p2, p3, p4, p5, p6]
       refine tk (i := 4) (v := ?_) rfl (by kernel_rfl) (by kernel_rfl) (by kernel_rfl) (fun _ _ _ h => h) (Or.inl ⟨by rfl, ?_⟩) (by assumption) ?_
       rotate_left
       focus (intro w' hSw; (try dsimp only at hSw); go_simp; try with_reducible rfl)
       try simp only [Act.put, p1, p2, p3, p4, p5, p6]
       refine tk (i := 5) (v := ?_) rfl (by kernel_rfl) (by kernel_rfl) (by kernel_rfl) (fun _ _ _ h => h) (Or.inl ⟨by rfl, ?_⟩) (by assumption) ?_
       rotate_left
       focus (intro w' hSw; (try dsimp only at hSw); go_simp; try with_reducible rfl)
       try simp only [Act.put, p1, p2, p3, p4, p5, p6]
       refine rd (rs := [6]) (by kernel_rfl) (by simp) ?_
       refine AllReadyH.cons rfl (fun K hK => ?_) AllReadyH.nil
       go_simp
       go_at_call 68
       refine ((C _).out).mono ?_
       rintro eq1 wq1 ⟨rfl, hB1⟩
       have I1 := Lib.hid ((ID).later (hB1))
       clear hB1
       go_wp2_with fail
       refine hK.out _ _ ⟨(I1.out).fixed (g, iN * 2, .int .i64 x0) (by simp), (I1.out).fixed (g, iN * 2 + 1, .int .u64 x1) (by simp), (I1.out).fixed (w.heap.size + 1, 0, .int .i64 p) (by simp), (I1.out).fixed (w.heap.size + 1, 1, .int .u64 q) (by simp), (I1.out).there (w.heap.size + 1, 0) (by simp), (I1.out).there (w.heap.size + 1, 1) (by simp), (I1.out).there (w.heap.size, 0) (by simp), (I1.out).there (w.heap.size, 1) (by simp), (I1.out).froz (w.heap.size + 1, 0) (by simp), (I1.out).froz (w.heap.size + 1, 1) (by simp), (I1.out).froz (w.heap.size, 0) (by simp), (I1.out).froz (w.heap.size, 1) (by simp), (I1.out).lt (w.heap.size + 1, 0) (by simp), (I1.out).lt (w.heap.size, 0) (by simp), I1.out⟩ (fun hHeld => ?_)
       clear hK K
       try simp only [Act.put, p1, p2, p3, p4, p5, p6]
       refine tk (i := 7) (v := ?_) rfl (by kernel_rfl) (by kernel_rfl) (by kernel_rfl) (fun _ _ _ h => h) (Or.inl ⟨by rfl, ?_⟩) (by assumption) ?_
       rotate_left
       focus (intro w' hSw; (try dsimp only at hSw); go_simp; try with_reducible rfl)
       try simp only [Act.put, p1, p2, p3, p4, p5, p6]
       refine wpAnyH_done (by kernel_rfl) ?_ _
       have m0 := I1.out.fixed (w.heap.size + 1, 0, .int .i64 p) (by simp)
       have m1 := I1.out.fixed (w.heap.size + 1, 1, .int .u64 q) (by simp)
       have d0 := I1.out.fixed (g, iN * 2, .int .i64 x0) (by simp)
       have d1 := I1.out.fixed (g, iN * 2 + 1, .int .u64 x1) (by simp)
       have f0 := I1.out.froz (w.heap.size + 1, 0) (by simp)
       have f1 := I1.out.froz (w.heap.size + 1, 1) (by simp)
       dsimp only at m0 m1 d0 d1 f0 f1
       clear hHeld ID C
       go_wp2
       go_roundw
       case rel => exact ⟨t + 1, p, q, congrArg (Value.int IntKind.i64) (by omega), by omega, Lib.hid ⟨by rw [HM.out.1, HS.out], by rw [HM.out.2, HS.out]⟩, ⟨fun z hz => I1.out.fixed z (by simp only [List.mem_cons, List.not_mem_nil, or_false] at hz; rcases hz with rfl | rfl <;> simp), I1.out.there, I1.out.froz, I1.out.lt, I1.out.base, I1.out.bl⟩⟩
       case measure => simp [intOf]; omega
   · obtain rfl : n = t + 1 := by omega
     have m0 := K.fixed (w.heap.size + 1, 0, .int .i64 p) (by simp)
     have m1 := K.fixed (w.heap.size + 1, 1, .int .u64 q) (by simp)
     have r0 := K.there (w.heap.size, 0) (by simp)
     have r1 := K.there (w.heap.size, 1) (by simp)
     have f0 := K.froz (w.heap.size, 0) (by simp)
     have f1 := K.froz (w.heap.size, 1) (by simp)
     dsimp only at m0 m1 r0 r1 f0 f1
     have bl := K.bl
     clear K
     go_wp2
     refine bodyPost_ret (v := .agg #[.int .i64 p, .int .u64 q]) (by simp [results, Try.results67, go_sem, r0, r1]) rfl ⟨congrArg Ending.returned (numV_mk HM.out.1 HM.out.2), ?_⟩
     exact (bl.setCell (by simp) _).setCell (by simp) _
end Go.Proofs.Ytgkhldbnljdeiaa
