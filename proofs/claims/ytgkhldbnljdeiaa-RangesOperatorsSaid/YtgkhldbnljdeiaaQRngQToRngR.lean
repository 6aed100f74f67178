/- RngQ, RngR. -/
import Derived.Test.YtgkhldbnljdeiaaPutRules
import Derived.Deep.DrawnRows
import Derived.Test.YtgkhldbnljdeiaaQRngP
import Derived.Test.YtgkhldbnljdeiaaQRngKToRngY
set_option maxRecDepth 100000
set_option maxHeartbeats 2000000
set_option linter.unusedSimpArgs false
set_option linter.unusedVariables false
namespace Go.Proofs.Ytgkhldbnljdeiaa
open Go.RowKit
attribute [local go_sem] World.setCell_self
attribute [local go_sem ↓] Go.wp_at_zero Go.wp_at_succ
/-- The variables of a narrowing: its two ranges, and its two results. -/
structure NarIn (w wx : World) (a b c d : Int) : Prop where
 a0 : wx.cell? ⟨w.heap.size, 0, none⟩ = some (.int .i64 a)
 a1 : wx.cell? ⟨w.heap.size, 1, none⟩ = some (.int .i64 b)
 b0 : wx.cell? ⟨w.heap.size + 1, 0, none⟩ = some (.int .i64 c)
 b1 : wx.cell? ⟨w.heap.size + 1, 1, none⟩ = some (.int .i64 d)
 x0 : wx.cell? ⟨w.heap.size + 1 + 1, 0, none⟩ = some (.int .i64 0)
 x1 : wx.cell? ⟨w.heap.size + 1 + 1, 1, none⟩ = some (.int .i64 0)
 y0 : wx.cell? ⟨w.heap.size + 1 + 1 + 1, 0, none⟩ = some (.int .i64 0)
 y1 : wx.cell? ⟨w.heap.size + 1 + 1 + 1, 1, none⟩ = some (.int .i64 0)
 fx0 : wx.frozen? ⟨w.heap.size + 1 + 1, 0, none⟩ = false
 fx1 : wx.frozen? ⟨w.heap.size + 1 + 1, 1, none⟩ = false
 fy0 : wx.frozen? ⟨w.heap.size + 1 + 1 + 1, 0, none⟩ = false
 fy1 : wx.frozen? ⟨w.heap.size + 1 + 1 + 1, 1, none⟩ = false
 sz : w.heap.size + 1 + 1 + 1 < wx.heap.size
 bl : Below w.heap.size w wx
theorem NarIn.later {w wx wy : World} {a b c d : Int} (h : NarIn w wx a b c d) (hb : Below wx.heap.size wx wy) : NarIn w wy a b c d :=
 ⟨cell_later hb h.a0, cell_later hb h.a1, cell_later hb h.b0, cell_later hb h.b1, cell_later hb h.x0, cell_later hb h.x1, cell_later hb h.y0, cell_later hb h.y1, keepFr hb (by have := h.sz; omega) h.fx0, keepFr hb (by have := h.sz; omega) h.fx1, keepFr hb (by have := h.sz; omega) h.fy0, keepFr hb (by have := h.sz; omega) h.fy1, Nat.lt_of_lt_of_le h.sz hb.size, h.bl.trans (hb.mono (by have := h.sz; omega))⟩
theorem narIn (w : World) (a b c d : Int) : NarIn w ((((w.alloc (.cells #[.int .i64 a, .int .i64 b] 23)).alloc (.cells #[.int .i64 c, .int .i64 d] 23)).alloc (.cells #[.int .i64 0, .int .i64 0] 23)).alloc (.cells #[.int .i64 0, .int .i64 0] 23)) a b c d :=
 ⟨by go_simp, by go_simp, by go_simp, by go_simp, by go_simp, by go_simp, by go_simp, by go_simp, by go_simp, by go_simp, by go_simp, by go_simp, by simp, (((Below.refl _ _).alloc (Nat.le_refl _) _).alloc (by simp) _).alloc (by simp; omega) _ |>.alloc (by simp; omega) _⟩
theorem punequal_no (a c : Int) (w : World) (h : a = c) :
   Calls Try.prog 72 #[.agg #[.int .i64 a, .int .i64 a], .agg #[.int .i64 c, .int .i64 c]] w fun e w' => e = .returned (TwoV ⟨0, 0, 0, 0, false⟩) ∧ Below w.heap.size w w' := by
 subst h
 have S := fun w => Lib.hid (psingle_any a a w)
 have e0 : (a == a) = true := by simp
 rw [e0] at S
 clear e0
 go_enter Try.func72, Try.ntmps72
 go_wp2_with (go_at_call 83; refine (S _).out.mono ?_; rintro e w' ⟨rfl, hb⟩; have I := (narIn w a a a a).later hb; have J := Lib.hid I; obtain ⟨a0, a1, b0, b1, x0, x1, y0, y1, fx0, fx1, fy0, fy1, sz, bl⟩ := I)
 refine bodyPost_ret (v := TwoV ⟨0, 0, 0, 0, false⟩) (by simp [results, Try.results72, go_sem, TwoV, *]) rfl ⟨rfl, ?_⟩
 exact bl
theorem NarIn.keeps {w wx : World} {a b c d : Int} (h : NarIn w wx a b c d) : Keeps (w.heap.size) [(w.heap.size, 0, .int .i64 a), (w.heap.size, 1, .int .i64 b), (w.heap.size + 1, 0, .int .i64 c), (w.heap.size + 1, 1, .int .i64 d)] [(w.heap.size + 1 + 1, 0), (w.heap.size + 1 + 1, 1), (w.heap.size + 1 + 1 + 1, 0), (w.heap.size + 1 + 1 + 1, 1)] w wx := by
 obtain ⟨a0, a1, b0, b1, x0, x1, y0, y1, fx0, fx1, fy0, fy1, sz, bl⟩ := h
 refine ⟨?_, ?_, ?_, ?_, by omega, bl⟩
 · intro p hp; simp at hp; rcases hp with rfl | rfl | rfl | rfl <;> assumption
 · intro p hp; simp at hp; rcases hp with rfl | rfl | rfl | rfl
   · exact valAt_some (by rw [x0]; rfl)
   · exact valAt_some (by rw [x1]; rfl)
   · exact valAt_some (by rw [y0]; rfl)
   · exact valAt_some (by rw [y1]; rfl)
 · intro p hp; simp at hp; rcases hp with rfl | rfl | rfl | rfl <;> assumption
 · intro p hp; simp at hp; rcases hp with rfl | rfl | rfl | rfl <;> omega
theorem punequal_1 (a b c d x y u v : Int) (w : World) (W1 : ∀ w, Hid (Calls Try.prog 112 #[.agg #[.int .i64 a, .int .i64 b], .agg #[.int .i64 c, .int .i64 d]] w fun e w' => e = .returned (.agg #[.int .i64 x, .int .i64 y]) ∧ Below w.heap.size w w'))
   (W2 : ∀ w, Hid (Calls Try.prog 112 #[.agg #[.int .i64 c, .int .i64 d], .agg #[.int .i64 a, .int .i64 b]] w fun e w' => e = .returned (.agg #[.int .i64 u, .int .i64 v]) ∧ Below w.heap.size w w'))
   (hs : (a == c) = false) :
   Calls Try.prog 72 #[.agg #[.int .i64 a, .int .i64 b], .agg #[.int .i64 c, .int .i64 d]] w fun e w' => e = .returned (TwoV ⟨x, y, u, v, true⟩) ∧ Below w.heap.size w w' := by
 go_enter Try.func72, Try.ntmps72
 go_wp2_with fail
 have I := narIn w a b c d
 generalize ((((w.alloc (.cells #[.int .i64 a, .int .i64 b] 23)).alloc (.cells #[.int .i64 c, .int .i64 d] 23)).alloc (.cells #[.int .i64 0, .int .i64 0] 23)).alloc (.cells #[.int .i64 0, .int .i64 0] 23)) = W at *
 have ID := (I.later (Below.refl _ _).drew).keeps
 clear I
 refine wp_region_held_drew (S := fun w' => w'.cell? ⟨w.heap.size, 0, none⟩ = some (.int .i64 a) ∧ w'.cell? ⟨w.heap.size, 1, none⟩ = some (.int .i64 b) ∧ w'.cell? ⟨w.heap.size + 1, 0, none⟩ = some (.int .i64 c) ∧ w'.cell? ⟨w.heap.size + 1, 1, none⟩ = some (.int .i64 d) ∧ w'.cell? ⟨w.heap.size + 1 + 1, 0, none⟩ = some (valAt w' ⟨w.heap.size + 1 + 1, 0, none⟩) ∧ w'.cell? ⟨w.heap.size + 1 + 1, 1, none⟩ = some (valAt w' ⟨w.heap.size + 1 + 1, 1, none⟩) ∧ w'.cell? ⟨w.heap.size + 1 + 1 + 1, 0, none⟩ = some (valAt w' ⟨w.heap.size + 1 + 1 + 1, 0, none⟩) ∧ w'.cell? ⟨w.heap.size + 1 + 1 + 1, 1, none⟩ = some (valAt w' ⟨w.heap.size + 1 + 1 + 1, 1, none⟩) ∧ w'.frozen? ⟨w.heap.size + 1 + 1, 0, none⟩ = false ∧ w'.frozen? ⟨w.heap.size + 1 + 1, 1, none⟩ = false ∧ w'.frozen? ⟨w.heap.size + 1 + 1 + 1, 0, none⟩ = false ∧ w'.frozen? ⟨w.heap.size + 1 + 1 + 1, 1, none⟩ = false ∧ w.heap.size + 1 + 1 < w'.heap.size ∧ w.heap.size + 1 + 1 + 1 < w'.heap.size ∧ Keeps (w.heap.size) [(w.heap.size, 0, .int .i64 a), (w.heap.size, 1, .int .i64 b), (w.heap.size + 1, 0, .int .i64 c), (w.heap.size + 1, 1, .int .i64 d)] [(w.heap.size + 1 + 1, 0), (w.heap.size + 1 + 1, 1), (w.heap.size + 1 + 1 + 1, 0), (w.heap.size + 1 + 1 + 1, 1)] w w') (by kernel_rfl) ⟨(ID).fixed (w.heap.size, 0, .int .i64 a) (by simp), (ID).fixed (w.heap.size, 1, .int .i64 b) (by simp), (ID).fixed (w.heap.size + 1, 0, .int .i64 c) (by simp), (ID).fixed (w.heap.size + 1, 1, .int .i64 d) (by simp), (ID).there (w.heap.size + 1 + 1, 0) (by simp), (ID).there (w.heap.size + 1 + 1, 1) (by simp), (ID).there (w.heap.size + 1 + 1 + 1, 0) (by simp), (ID).there (w.heap.size + 1 + 1 + 1, 1) (by simp), (ID).froz (w.heap.size + 1 + 1, 0) (by simp), (ID).froz (w.heap.size + 1 + 1, 1) (by simp), (ID).froz (w.heap.size + 1 + 1 + 1, 0) (by simp), (ID).froz (w.heap.size + 1 + 1 + 1, 1) (by simp), (ID).lt (w.heap.size + 1 + 1, 0) (by simp), (ID).lt (w.heap.size + 1 + 1 + 1, 0) (by simp), ID⟩ (fun hHeld => ?_)
 refine tk (i := 0) (v := ?_) rfl (by kernel_rfl) (by kernel_rfl) (by kernel_rfl) (fun _ _ _ h => h) (Or.inl ⟨by rfl, ?_⟩) (by assumption) ?_
 rotate_left
 focus (intro w' hSw; (try dsimp only at hSw); go_simp; try with_reducible rfl)
 try simp only [Act.put, p1, p2, p3, p4, p5, p6]
 refine tk (i := 1) (v := ?_) rfl (by kernel_rfl) (by kernel_rfl) (by kernel_rfl) (fun _ _ _ h => h) (Or.inl ⟨by rfl, ?_⟩) (by assumption) ?_
 rotate_left
 focus (intro w' hSw; (try dsimp only at hSw); go_simp; try with_reducible rfl)
 try simp only [Act.put, p1, p2, p3, p4, p5, p6]
 refine tk (i := 3) (v := ?_) rfl (by kernel_rfl) (by kernel_rfl) (by kernel_rfl) (fun _ _ _ h => h) (Or.inl ⟨by rfl, ?_⟩) (by assumption) ?_
 rotate_left
 focus (intro w' hSw; (try dsimp only at hSw); go_simp; try with_reducible rfl)
 try simp only [Act.put, p1, p2, p3, p4, p5, p6]
 refine tk (i := 4) (v := ?_) rfl (by kernel_rfl) (by kernel_rfl) (by kernel_rfl) (fun _ _ _ h => h) (Or.inl ⟨by rfl, ?_⟩) (by assumption) ?_
 rotate_left
 focus (intro w' hSw; (try dsimp only at hSw); go_simp; try with_reducible rfl)
 try simp only [Act.put, p1, p2, p3, p4, p5, p6]
 refine rd (rs := [2]) (by kernel_rfl) (by simp) ?_
 refine AllReadyH.cons rfl (fun K hK => ?_) AllReadyH.nil
 go_simp
 go_at_call 112
 refine ((W1 _).out).mono ?_
 rintro eq1 wq1 ⟨rfl, hB1⟩
 have I1 := Lib.hid ((ID).later (hB1))
 clear hB1
 go_wp2_with fail
 refine hK.out _ _ ⟨(I1.out).fixed (w.heap.size, 0, .int .i64 a) (by simp), (I1.out).fixed (w.heap.size, 1, .int .i64 b) (by simp), (I1.out).fixed (w.heap.size + 1, 0, .int .i64 c) (by simp), (I1.out).fixed (w.heap.size + 1, 1, .int .i64 d) (by simp), (I1.out).there (w.heap.size + 1 + 1, 0) (by simp), (I1.out).there (w.heap.size + 1 + 1, 1) (by simp), (I1.out).there (w.heap.size + 1 + 1 + 1, 0) (by simp), (I1.out).there (w.heap.size + 1 + 1 + 1, 1) (by simp), (I1.out).froz (w.heap.size + 1 + 1, 0) (by simp), (I1.out).froz (w.heap.size + 1 + 1, 1) (by simp), (I1.out).froz (w.heap.size + 1 + 1 + 1, 0) (by simp), (I1.out).froz (w.heap.size + 1 + 1 + 1, 1) (by simp), (I1.out).lt (w.heap.size + 1 + 1, 0) (by simp), (I1.out).lt (w.heap.size + 1 + 1 + 1, 0) (by simp), I1.out⟩ (fun hHeld => ?_)
 clear hK K
 try simp only [Act.put, p1, p2, p3, p4, p5, p6]
 refine rd (rs := [5]) (by kernel_rfl) (by simp) ?_
 refine AllReadyH.cons rfl (fun K hK => ?_) AllReadyH.nil
 go_simp
 go_at_call 112
 refine ((W2 _).out).mono ?_
 rintro eq2 wq2 ⟨rfl, hB2⟩
 have I2 := Lib.hid ((I1.out).later (hB2))
 clear hB2
 go_wp2_with fail
 refine hK.out _ _ ⟨(I2.out).fixed (w.heap.size, 0, .int .i64 a) (by simp), (I2.out).fixed (w.heap.size, 1, .int .i64 b) (by simp), (I2.out).fixed (w.heap.size + 1, 0, .int .i64 c) (by simp), (I2.out).fixed (w.heap.size + 1, 1, .int .i64 d) (by simp), (I2.out).there (w.heap.size + 1 + 1, 0) (by simp), (I2.out).there (w.heap.size + 1 + 1, 1) (by simp), (I2.out).there (w.heap.size + 1 + 1 + 1, 0) (by simp), (I2.out).there (w.heap.size + 1 + 1 + 1, 1) (by simp), (I2.out).froz (w.heap.size + 1 + 1, 0) (by simp), (I2.out).froz (w.heap.size + 1 + 1, 1) (by simp), (I2.out).froz (w.heap.size + 1 + 1 + 1, 0) (by simp), (I2.out).froz (w.heap.size + 1 + 1 + 1, 1) (by simp), (I2.out).lt (w.heap.size + 1 + 1, 0) (by simp), (I2.out).lt (w.heap.size + 1 + 1 + 1, 0) (by simp), I2.out⟩ (fun hHeld => ?_)
 clear hK K
 try simp only [Act.put, p1, p2, p3, p4, p5, p6]
 refine rd (rs := [6]) (by kernel_rfl) (by simp) ?_
 refine AllReadyH.cons rfl (fun K hK => ?_) AllReadyH.nil
 go_simp
 have I3 := Lib.hid (Keeps.set (Keeps.set (I2.out) (w.heap.size + 1 + 1) 0 (.int .i64 x) (by simp) (by omega) (by simp; try omega)) (w.heap.size + 1 + 1) 1 (.int .i64 y) (by simp) (by omega) (by simp; try omega))
 refine hK.out _ _ ⟨(I3.out).fixed (w.heap.size, 0, .int .i64 a) (by simp), (I3.out).fixed (w.heap.size, 1, .int .i64 b) (by simp), (I3.out).fixed (w.heap.size + 1, 0, .int .i64 c) (by simp), (I3.out).fixed (w.heap.size + 1, 1, .int .i64 d) (by simp), (I3.out).there (w.heap.size + 1 + 1, 0) (by simp), (I3.out).there (w.heap.size + 1 + 1, 1) (by simp), (I3.out).there (w.heap.size + 1 + 1 + 1, 0) (by simp), (I3.out).there (w.heap.size + 1 + 1 + 1, 1) (by simp), (I3.out).froz (w.heap.size + 1 + 1, 0) (by simp), (I3.out).froz (w.heap.size + 1 + 1, 1) (by simp), (I3.out).froz (w.heap.size + 1 + 1 + 1, 0) (by simp), (I3.out).froz (w.heap.size + 1 + 1 + 1, 1) (by simp), (I3.out).lt (w.heap.size + 1 + 1, 0) (by simp), (I3.out).lt (w.heap.size + 1 + 1 + 1, 0) (by simp), I3.out⟩ (fun hHeld => ?_)
 clear hK K
 try simp only [Act.put, p1, p2, p3, p4, p5, p6]
 refine rd (rs := [7]) (by kernel_rfl) (by simp) ?_
 refine AllReadyH.cons rfl (fun K hK => ?_) AllReadyH.nil
 go_simp
 have I4 := Lib.hid (Keeps.set (Keeps.set (I3.out) (w.heap.size + 1 + 1 + 1) 0 (.int .i64 u) (by simp) (by omega) (by simp; try omega)) (w.heap.size + 1 + 1 + 1) 1 (.int .i64 v) (by simp) (by omega) (by simp; try omega))
 refine hK.out _ _ ⟨(I4.out).fixed (w.heap.size, 0, .int .i64 a) (by simp), (I4.out).fixed (w.heap.size, 1, .int .i64 b) (by simp), (I4.out).fixed (w.heap.size + 1, 0, .int .i64 c) (by simp), (I4.out).fixed (w.heap.size + 1, 1, .int .i64 d) (by simp), (I4.out).there (w.heap.size + 1 + 1, 0) (by simp), (I4.out).there (w.heap.size + 1 + 1, 1) (by simp), (I4.out).there (w.heap.size + 1 + 1 + 1, 0) (by simp), (I4.out).there (w.heap.size + 1 + 1 + 1, 1) (by simp), (I4.out).froz (w.heap.size + 1 + 1, 0) (by simp), (I4.out).froz (w.heap.size + 1 + 1, 1) (by simp), (I4.out).froz (w.heap.size + 1 + 1 + 1, 0) (by simp), (I4.out).froz (w.heap.size + 1 + 1 + 1, 1) (by simp), (I4.out).lt (w.heap.size + 1 + 1, 0) (by simp), (I4.out).lt (w.heap.size + 1 + 1 + 1, 0) (by simp), I4.out⟩ (fun hHeld => ?_)
 clear hK K
 try simp only [Act.put, p1, p2, p3, p4, p5, p6]
 refine tk (i := 8) (v := ?_) rfl (by kernel_rfl) (by kernel_rfl) (by kernel_rfl) (fun _ _ _ h => h) (Or.inl ⟨by rfl, ?_⟩) (by assumption) ?_
 rotate_left
 focus (intro w' hSw; (try dsimp only at hSw); go_simp; try with_reducible rfl)
 try simp only [Act.put, p1, p2, p3, p4, p5, p6]
 refine wpAnyH_done (by kernel_rfl) ?_ _
 have e0 : wq2.cell? ⟨w.heap.size + 1 + 1, 0, none⟩ = some (valAt wq2 ⟨w.heap.size + 1 + 1, 0, none⟩) := (I2.out).there (w.heap.size + 1 + 1, 0) (by simp)
 have e1 : wq2.cell? ⟨w.heap.size + 1 + 1, 1, none⟩ = some (valAt wq2 ⟨w.heap.size + 1 + 1, 1, none⟩) := (I2.out).there (w.heap.size + 1 + 1, 1) (by simp)
 have e2 : wq2.cell? ⟨w.heap.size + 1 + 1 + 1, 0, none⟩ = some (valAt wq2 ⟨w.heap.size + 1 + 1 + 1, 0, none⟩) := (I2.out).there (w.heap.size + 1 + 1 + 1, 0) (by simp)
 have e3 : wq2.cell? ⟨w.heap.size + 1 + 1 + 1, 1, none⟩ = some (valAt wq2 ⟨w.heap.size + 1 + 1 + 1, 1, none⟩) := (I2.out).there (w.heap.size + 1 + 1 + 1, 1) (by simp)
 have bl := (I4.out).bl
 go_wp2
 refine bodyPost_ret (v := TwoV ⟨x, y, u, v, true⟩) (by simp [results, Try.results72, go_sem, TwoV, e0, e1, e2, e3]) rfl ⟨rfl, bl⟩
theorem punequal_2 (a b c d x y u v : Int) (w : World) (W1 : ∀ w, Hid (Calls Try.prog 112 #[.agg #[.int .i64 a, .int .i64 b], .agg #[.int .i64 c, .int .i64 d]] w fun e w' => e = .returned (.agg #[.int .i64 x, .int .i64 y]) ∧ Below w.heap.size w w'))
   (W2 : ∀ w, Hid (Calls Try.prog 112 #[.agg #[.int .i64 c, .int .i64 d], .agg #[.int .i64 a, .int .i64 b]] w fun e w' => e = .returned (.agg #[.int .i64 u, .int .i64 v]) ∧ Below w.heap.size w w'))
   (hs : (a == c) = true) (ht : (b == d) = false) :
   Calls Try.prog 72 #[.agg #[.int .i64 a, .int .i64 b], .agg #[.int .i64 c, .int .i64 d]] w fun e w' => e = .returned (TwoV ⟨x, y, u, v, true⟩) ∧ Below w.heap.size w w' := by
 go_enter Try.func72, Try.ntmps72
 go_wp2_with fail
 have I := narIn w a b c d
 generalize ((((w.alloc (.cells #[.int .i64 a, .int .i64 b] 23)).alloc (.cells #[.int .i64 c, .int .i64 d] 23)).alloc (.cells #[.int .i64 0, .int .i64 0] 23)).alloc (.cells #[.int .i64 0, .int .i64 0] 23)) = W at *
 have ID := (I.later (Below.refl _ _).drew).keeps
 clear I
 refine wp_region_held_drew (S := fun w' => w'.cell? ⟨w.heap.size, 0, none⟩ = some (.int .i64 a) ∧ w'.cell? ⟨w.heap.size, 1, none⟩ = some (.int .i64 b) ∧ w'.cell? ⟨w.heap.size + 1, 0, none⟩ = some (.int .i64 c) ∧ w'.cell? ⟨w.heap.size + 1, 1, none⟩ = some (.int .i64 d) ∧ w'.cell? ⟨w.heap.size + 1 + 1, 0, none⟩ = some (valAt w' ⟨w.heap.size + 1 + 1, 0, none⟩) ∧ w'.cell? ⟨w.heap.size + 1 + 1, 1, none⟩ = some (valAt w' ⟨w.heap.size + 1 + 1, 1, none⟩) ∧ w'.cell? ⟨w.heap.size + 1 + 1 + 1, 0, none⟩ = some (valAt w' ⟨w.heap.size + 1 + 1 + 1, 0, none⟩) ∧ w'.cell? ⟨w.heap.size + 1 + 1 + 1, 1, none⟩ = some (valAt w' ⟨w.heap.size + 1 + 1 + 1, 1, none⟩) ∧ w'.frozen? ⟨w.heap.size + 1 + 1, 0, none⟩ = false ∧ w'.frozen? ⟨w.heap.size + 1 + 1, 1, none⟩ = false ∧ w'.frozen? ⟨w.heap.size + 1 + 1 + 1, 0, none⟩ = false ∧ w'.frozen? ⟨w.heap.size + 1 + 1 + 1, 1, none⟩ = false ∧ w.heap.size + 1 + 1 < w'.heap.size ∧ w.heap.size + 1 + 1 + 1 < w'.heap.size ∧ Keeps (w.heap.size) [(w.heap.size, 0, .int .i64 a), (w.heap.size, 1, .int .i64 b), (w.heap.size + 1, 0, .int .i64 c), (w.heap.size + 1, 1, .int .i64 d)] [(w.heap.size + 1 + 1, 0), (w.heap.size + 1 + 1, 1), (w.heap.size + 1 + 1 + 1, 0), (w.heap.size + 1 + 1 + 1, 1)] w w') (by kernel_rfl) ⟨(ID).fixed (w.heap.size, 0, .int .i64 a) (by simp), (ID).fixed (w.heap.size, 1, .int .i64 b) (by simp), (ID).fixed (w.heap.size + 1, 0, .int .i64 c) (by simp), (ID).fixed (w.heap.size + 1, 1, .int .i64 d) (by simp), (ID).there (w.heap.size + 1 + 1, 0) (by simp), (ID).there (w.heap.size + 1 + 1, 1) (by simp), (ID).there (w.heap.size + 1 + 1 + 1, 0) (by simp), (ID).there (w.heap.size + 1 + 1 + 1, 1) (by simp), (ID).froz (w.heap.size + 1 + 1, 0) (by simp), (ID).froz (w.heap.size + 1 + 1, 1) (by simp), (ID).froz (w.heap.size + 1 + 1 + 1, 0) (by simp), (ID).froz (w.heap.size + 1 + 1 + 1, 1) (by simp), (ID).lt (w.heap.size + 1 + 1, 0) (by simp), (ID).lt (w.heap.size + 1 + 1 + 1, 0) (by simp), ID⟩ (fun hHeld => ?_)
 refine tk (i := 0) (v := ?_) rfl (by kernel_rfl) (by kernel_rfl) (by kernel_rfl) (fun _ _ _ h => h) (Or.inl ⟨by rfl, ?_⟩) (by assumption) ?_
 rotate_left
 focus (intro w' hSw; (try dsimp only at hSw); go_simp; try with_reducible rfl)
 try simp only [Act.put, p1, p2, p3, p4, p5, p6]
 refine tk (i := 1) (v := ?_) rfl (by kernel_rfl) (by kernel_rfl) (by kernel_rfl) (fun _ _ _ h => h) (Or.inl ⟨by rfl, ?_⟩) (by assumption) ?_
 rotate_left
 focus (intro w' hSw; (try dsimp only at hSw); go_simp; try with_reducible rfl)
 try simp only [Act.put, p1, p2, p3, p4, p5, p6]
 refine tk (i := 3) (v := ?_) rfl (by kernel_rfl) (by kernel_rfl) (by kernel_rfl) (fun _ _ _ h => h) (Or.inl ⟨by rfl, ?_⟩) (by assumption) ?_
 rotate_left
 focus (intro w' hSw; (try dsimp only at hSw); go_simp; try with_reducible rfl)
 try simp only [Act.put, p1, p2, p3, p4, p5, p6]
 refine tk (i := 4) (v := ?_) rfl (by kernel_rfl) (by kernel_rfl) (by kernel_rfl) (fun _ _ _ h => h) (Or.inl ⟨by rfl, ?_⟩) (by assumption) ?_
 rotate_left
 focus (intro w' hSw; (try dsimp only at hSw); go_simp; try with_reducible rfl)
 try simp only [Act.put, p1, p2, p3, p4, p5, p6]
 refine rd (rs := [2]) (by kernel_rfl) (by simp) ?_
 refine AllReadyH.cons rfl (fun K hK => ?_) AllReadyH.nil
 go_simp
 go_at_call 112
 refine ((W1 _).out).mono ?_
 rintro eq1 wq1 ⟨rfl, hB1⟩
 have I1 := Lib.hid ((ID).later (hB1))
 clear hB1
 go_wp2_with fail
 refine hK.out _ _ ⟨(I1.out).fixed (w.heap.size, 0, .int .i64 a) (by simp), (I1.out).fixed (w.heap.size, 1, .int .i64 b) (by simp), (I1.out).fixed (w.heap.size + 1, 0, .int .i64 c) (by simp), (I1.out).fixed (w.heap.size + 1, 1, .int .i64 d) (by simp), (I1.out).there (w.heap.size + 1 + 1, 0) (by simp), (I1.out).there (w.heap.size + 1 + 1, 1) (by simp), (I1.out).there (w.heap.size + 1 + 1 + 1, 0) (by simp), (I1.out).there (w.heap.size + 1 + 1 + 1, 1) (by simp), (I1.out).froz (w.heap.size + 1 + 1, 0) (by simp), (I1.out).froz (w.heap.size + 1 + 1, 1) (by simp), (I1.out).froz (w.heap.size + 1 + 1 + 1, 0) (by simp), (I1.out).froz (w.heap.size + 1 + 1 + 1, 1) (by simp), (I1.out).lt (w.heap.size + 1 + 1, 0) (by simp), (I1.out).lt (w.heap.size + 1 + 1 + 1, 0) (by simp), I1.out⟩ (fun hHeld => ?_)
 clear hK K
 try simp only [Act.put, p1, p2, p3, p4, p5, p6]
 refine rd (rs := [5]) (by kernel_rfl) (by simp) ?_
 refine AllReadyH.cons rfl (fun K hK => ?_) AllReadyH.nil
 go_simp
 go_at_call 112
 refine ((W2 _).out).mono ?_
 rintro eq2 wq2 ⟨rfl, hB2⟩
 have I2 := Lib.hid ((I1.out).later (hB2))
 clear hB2
 go_wp2_with fail
 refine hK.out _ _ ⟨(I2.out).fixed (w.heap.size, 0, .int .i64 a) (by simp), (I2.out).fixed (w.heap.size, 1, .int .i64 b) (by simp), (I2.out).fixed (w.heap.size + 1, 0, .int .i64 c) (by simp), (I2.out).fixed (w.heap.size + 1, 1, .int .i64 d) (by simp), (I2.out).there (w.heap.size + 1 + 1, 0) (by simp), (I2.out).there (w.heap.size + 1 + 1, 1) (by simp), (I2.out).there (w.heap.size + 1 + 1 + 1, 0) (by simp), (I2.out).there (w.heap.size + 1 + 1 + 1, 1) (by simp), (I2.out).froz (w.heap.size + 1 + 1, 0) (by simp), (I2.out).froz (w.heap.size + 1 + 1, 1) (by simp), (I2.out).froz (w.heap.size + 1 + 1 + 1, 0) (by simp), (I2.out).froz (w.heap.size + 1 + 1 + 1, 1) (by simp), (I2.out).lt (w.heap.size + 1 + 1, 0) (by simp), (I2.out).lt (w.heap.size + 1 + 1 + 1, 0) (by simp), I2.out⟩ (fun hHeld => ?_)
 clear hK K
 try simp only [Act.put, p1, p2, p3, p4, p5, p6]
 refine rd (rs := [6]) (by kernel_rfl) (by simp) ?_
 refine AllReadyH.cons rfl (fun K hK => ?_) AllReadyH.nil
 go_simp
 have I3 := Lib.hid (Keeps.set (Keeps.set (I2.out) (w.heap.size + 1 + 1) 0 (.int .i64 x) (by simp) (by omega) (by simp; try omega)) (w.heap.size + 1 + 1) 1 (.int .i64 y) (by simp) (by omega) (by simp; try omega))
 refine hK.out _ _ ⟨(I3.out).fixed (w.heap.size, 0, .int .i64 a) (by simp), (I3.out).fixed (w.heap.size, 1, .int .i64 b) (by simp), (I3.out).fixed (w.heap.size + 1, 0, .int .i64 c) (by simp), (I3.out).fixed (w.heap.size + 1, 1, .int .i64 d) (by simp), (I3.out).there (w.heap.size + 1 + 1, 0) (by simp), (I3.out).there (w.heap.size + 1 + 1, 1) (by simp), (I3.out).there (w.heap.size + 1 + 1 + 1, 0) (by simp), (I3.out).there (w.heap.size + 1 + 1 + 1, 1) (by simp), (I3.out).froz (w.heap.size + 1 + 1, 0) (by simp), (I3.out).froz (w.heap.size + 1 + 1, 1) (by simp), (I3.out).froz (w.heap.size + 1 + 1 + 1, 0) (by simp), (I3.out).froz (w.heap.size + 1 + 1 + 1, 1) (by simp), (I3.out).lt (w.heap.size + 1 + 1, 0) (by simp), (I3.out).lt (w.heap.size + 1 + 1 + 1, 0) (by simp), I3.out⟩ (fun hHeld => ?_)
 clear hK K
 try simp only [Act.put, p1, p2, p3, p4, p5, p6]
 refine rd (rs := [7]) (by kernel_rfl) (by simp) ?_
 refine AllReadyH.cons rfl (fun K hK => ?_) AllReadyH.nil
 go_simp
 have I4 := Lib.hid (Keeps.set (Keeps.set (I3.out) (w.heap.size + 1 + 1 + 1) 0 (.int .i64 u) (by simp) (by omega) (by simp; try omega)) (w.heap.size + 1 + 1 + 1) 1 (.int .i64 v) (by simp) (by omega) (by simp; try omega))
 refine hK.out _ _ ⟨(I4.out).fixed (w.heap.size, 0, .int .i64 a) (by simp), (I4.out).fixed (w.heap.size, 1, .int .i64 b) (by simp), (I4.out).fixed (w.heap.size + 1, 0, .int .i64 c) (by simp), (I4.out).fixed (w.heap.size + 1, 1, .int .i64 d) (by simp), (I4.out).there (w.heap.size + 1 + 1, 0) (by simp), (I4.out).there (w.heap.size + 1 + 1, 1) (by simp), (I4.out).there (w.heap.size + 1 + 1 + 1, 0) (by simp), (I4.out).there (w.heap.size + 1 + 1 + 1, 1) (by simp), (I4.out).froz (w.heap.size + 1 + 1, 0) (by simp), (I4.out).froz (w.heap.size + 1 + 1, 1) (by simp), (I4.out).froz (w.heap.size + 1 + 1 + 1, 0) (by simp), (I4.out).froz (w.heap.size + 1 + 1 + 1, 1) (by simp), (I4.out).lt (w.heap.size + 1 + 1, 0) (by simp), (I4.out).lt (w.heap.size + 1 + 1 + 1, 0) (by simp), I4.out⟩ (fun hHeld => ?_)
 clear hK K
 try simp only [Act.put, p1, p2, p3, p4, p5, p6]
 refine tk (i := 8) (v := ?_) rfl (by kernel_rfl) (by kernel_rfl) (by kernel_rfl) (fun _ _ _ h => h) (Or.inl ⟨by rfl, ?_⟩) (by assumption) ?_
 rotate_left
 focus (intro w' hSw; (try dsimp only at hSw); go_simp; try with_reducible rfl)
 try simp only [Act.put, p1, p2, p3, p4, p5, p6]
 refine wpAnyH_done (by kernel_rfl) ?_ _
 have e0 : wq2.cell? ⟨w.heap.size + 1 + 1, 0, none⟩ = some (valAt wq2 ⟨w.heap.size + 1 + 1, 0, none⟩) := (I2.out).there (w.heap.size + 1 + 1, 0) (by simp)
 have e1 : wq2.cell? ⟨w.heap.size + 1 + 1, 1, none⟩ = some (valAt wq2 ⟨w.heap.size + 1 + 1, 1, none⟩) := (I2.out).there (w.heap.size + 1 + 1, 1) (by simp)
 have e2 : wq2.cell? ⟨w.heap.size + 1 + 1 + 1, 0, none⟩ = some (valAt wq2 ⟨w.heap.size + 1 + 1 + 1, 0, none⟩) := (I2.out).there (w.heap.size + 1 + 1 + 1, 0) (by simp)
 have e3 : wq2.cell? ⟨w.heap.size + 1 + 1 + 1, 1, none⟩ = some (valAt wq2 ⟨w.heap.size + 1 + 1 + 1, 1, none⟩) := (I2.out).there (w.heap.size + 1 + 1 + 1, 1) (by simp)
 have bl := (I4.out).bl
 go_wp2
 refine bodyPost_ret (v := TwoV ⟨x, y, u, v, true⟩) (by simp [results, Try.results72, go_sem, TwoV, e0, e1, e2, e3]) rfl ⟨rfl, bl⟩
theorem punequal_3 (a b c d x y u v : Int) (w : World) (W1 : ∀ w, Hid (Calls Try.prog 112 #[.agg #[.int .i64 a, .int .i64 b], .agg #[.int .i64 c, .int .i64 d]] w fun e w' => e = .returned (.agg #[.int .i64 x, .int .i64 y]) ∧ Below w.heap.size w w'))
   (W2 : ∀ w, Hid (Calls Try.prog 112 #[.agg #[.int .i64 c, .int .i64 d], .agg #[.int .i64 a, .int .i64 b]] w fun e w' => e = .returned (.agg #[.int .i64 u, .int .i64 v]) ∧ Below w.heap.size w w'))
   (hs : (a == c) = true) (ht : (b == d) = true) (G : ∀ w, Hid (Calls Try.prog 83 #[.agg #[.int .i64 a, .int .i64 b]] w fun e w' => e = .returned (.bool false) ∧ Below w.heap.size w w')) :
   Calls Try.prog 72 #[.agg #[.int .i64 a, .int .i64 b], .agg #[.int .i64 c, .int .i64 d]] w fun e w' => e = .returned (TwoV ⟨x, y, u, v, true⟩) ∧ Below w.heap.size w w' := by
 go_enter Try.func72, Try.ntmps72
 go_wp2_with fail
 have I := narIn w a b c d
 refine (G _).out.mono ?_
 rintro e W ⟨rfl, hb⟩
 have I := I.later hb
 have J := Lib.hid I
 obtain ⟨a0, a1, b0, b1, -, -, -, -, -, -, -, -, -, -⟩ := I
 go_wp2_with fail
 have I := J.out
 clear hb J
 have ID := (I.later (Below.refl _ _).drew).keeps
 clear I
 refine wp_region_held_drew (S := fun w' => w'.cell? ⟨w.heap.size, 0, none⟩ = some (.int .i64 a) ∧ w'.cell? ⟨w.heap.size, 1, none⟩ = some (.int .i64 b) ∧ w'.cell? ⟨w.heap.size + 1, 0, none⟩ = some (.int .i64 c) ∧ w'.cell? ⟨w.heap.size + 1, 1, none⟩ = some (.int .i64 d) ∧ w'.cell? ⟨w.heap.size + 1 + 1, 0, none⟩ = some (valAt w' ⟨w.heap.size + 1 + 1, 0, none⟩) ∧ w'.cell? ⟨w.heap.size + 1 + 1, 1, none⟩ = some (valAt w' ⟨w.heap.size + 1 + 1, 1, none⟩) ∧ w'.cell? ⟨w.heap.size + 1 + 1 + 1, 0, none⟩ = some (valAt w' ⟨w.heap.size + 1 + 1 + 1, 0, none⟩) ∧ w'.cell? ⟨w.heap.size + 1 + 1 + 1, 1, none⟩ = some (valAt w' ⟨w.heap.size + 1 + 1 + 1, 1, none⟩) ∧ w'.frozen? ⟨w.heap.size + 1 + 1, 0, none⟩ = false ∧ w'.frozen? ⟨w.heap.size + 1 + 1, 1, none⟩ = false ∧ w'.frozen? ⟨w.heap.size + 1 + 1 + 1, 0, none⟩ = false ∧ w'.frozen? ⟨w.heap.size + 1 + 1 + 1, 1, none⟩ = false ∧ w.heap.size + 1 + 1 < w'.heap.size ∧ w.heap.size + 1 + 1 + 1 < w'.heap.size ∧ Keeps (w.heap.size) [(w.heap.size, 0, .int .i64 a), (w.heap.size, 1, .int .i64 b), (w.heap.size + 1, 0, .int .i64 c), (w.heap.size + 1, 1, .int .i64 d)] [(w.heap.size + 1 + 1, 0), (w.heap.size + 1 + 1, 1), (w.heap.size + 1 + 1 + 1, 0), (w.heap.size + 1 + 1 + 1, 1)] w w') (by kernel_rfl) ⟨(ID).fixed (w.heap.size, 0, .int .i64 a) (by simp), (ID).fixed (w.heap.size, 1, .int .i64 b) (by simp), (ID).fixed (w.heap.size + 1, 0, .int .i64 c) (by simp), (ID).fixed (w.heap.size + 1, 1, .int .i64 d) (by simp), (ID).there (w.heap.size + 1 + 1, 0) (by simp), (ID).there (w.heap.size + 1 + 1, 1) (by simp), (ID).there (w.heap.size + 1 + 1 + 1, 0) (by simp), (ID).there (w.heap.size + 1 + 1 + 1, 1) (by simp), (ID).froz (w.heap.size + 1 + 1, 0) (by simp), (ID).froz (w.heap.size + 1 + 1, 1) (by simp), (ID).froz (w.heap.size + 1 + 1 + 1, 0) (by simp), (ID).froz (w.heap.size + 1 + 1 + 1, 1) (by simp), (ID).lt (w.heap.size + 1 + 1, 0) (by simp), (ID).lt (w.heap.size + 1 + 1 + 1, 0) (by simp), ID⟩ (fun hHeld => ?_)
 refine tk (i := 0) (v := ?_) rfl (by kernel_rfl) (by kernel_rfl) (by kernel_rfl) (fun _ _ _ h => h) (Or.inl ⟨by rfl, ?_⟩) (by assumption) ?_
 rotate_left
 focus (intro w' hSw; (try dsimp only at hSw); go_simp; try with_reducible rfl)
 try simp only [Act.put, p1, p2, p3, p4, p5, p6]
 refine tk (i := 1) (v := ?_) rfl (by kernel_rfl) (by kernel_rfl) (by kernel_rfl) (fun _ _ _ h => h) (Or.inl ⟨by rfl, ?_⟩) (by assumption) ?_
 rotate_left
 focus (intro w' hSw; (try dsimp only at hSw); go_simp; try with_reducible rfl)
 try simp only [Act.put, p1, p2, p3, p4, p5, p6]
 refine tk (i := 3) (v := ?_) rfl (by kernel_rfl) (by kernel_rfl) (by kernel_rfl) (fun _ _ _ h => h) (Or.inl ⟨by rfl, ?_⟩) (by assumption) ?_
 rotate_left
 focus (intro w' hSw; (try dsimp only at hSw); go_simp; try with_reducible rfl)
 try simp only [Act.put, p1, p2, p3, p4, p5, p6]
 refine tk (i := 4) (v := ?_) rfl (by kernel_rfl) (by kernel_rfl) (by kernel_rfl) (fun _ _ _ h => h) (Or.inl ⟨by rfl, ?_⟩) (by assumption) ?_
 rotate_left
 focus (intro w' hSw; (try dsimp only at hSw); go_simp; try with_reducible rfl)
 try simp only [Act.put, p1, p2, p3, p4, p5, p6]
 refine rd (rs := [2]) (by kernel_rfl) (by simp) ?_
 refine AllReadyH.cons rfl (fun K hK => ?_) AllReadyH.nil
 go_simp
 go_at_call 112
 refine ((W1 _).out).mono ?_
 rintro eq1 wq1 ⟨rfl, hB1⟩
 have I1 := Lib.hid ((ID).later (hB1))
 clear hB1
 go_wp2_with fail
 refine hK.out _ _ ⟨(I1.out).fixed (w.heap.size, 0, .int .i64 a) (by simp), (I1.out).fixed (w.heap.size, 1, .int .i64 b) (by simp), (I1.out).fixed (w.heap.size + 1, 0, .int .i64 c) (by simp), (I1.out).fixed (w.heap.size + 1, 1, .int .i64 d) (by simp), (I1.out).there (w.heap.size + 1 + 1, 0) (by simp), (I1.out).there (w.heap.size + 1 + 1, 1) (by simp), (I1.out).there (w.heap.size + 1 + 1 + 1, 0) (by simp), (I1.out).there (w.heap.size + 1 + 1 + 1, 1) (by simp), (I1.out).froz (w.heap.size + 1 + 1, 0) (by simp), (I1.out).froz (w.heap.size + 1 + 1, 1) (by simp), (I1.out).froz (w.heap.size + 1 + 1 + 1, 0) (by simp), (I1.out).froz (w.heap.size + 1 + 1 + 1, 1) (by simp), (I1.out).lt (w.heap.size + 1 + 1, 0) (by simp), (I1.out).lt (w.heap.size + 1 + 1 + 1, 0) (by simp), I1.out⟩ (fun hHeld => ?_)
 clear hK K
 try simp only [Act.put, p1, p2, p3, p4, p5, p6]
 refine rd (rs := [5]) (by kernel_rfl) (by simp) ?_
 refine AllReadyH.cons rfl (fun K hK => ?_) AllReadyH.nil
 go_simp
 go_at_call 112
 refine ((W2 _).out).mono ?_
 rintro eq2 wq2 ⟨rfl, hB2⟩
 have I2 := Lib.hid ((I1.out).later (hB2))
 clear hB2
 go_wp2_with fail
 refine hK.out _ _ ⟨(I2.out).fixed (w.heap.size, 0, .int .i64 a) (by simp), (I2.out).fixed (w.heap.size, 1, .int .i64 b) (by simp), (I2.out).fixed (w.heap.size + 1, 0, .int .i64 c) (by simp), (I2.out).fixed (w.heap.size + 1, 1, .int .i64 d) (by simp), (I2.out).there (w.heap.size + 1 + 1, 0) (by simp), (I2.out).there (w.heap.size + 1 + 1, 1) (by simp), (I2.out).there (w.heap.size + 1 + 1 + 1, 0) (by simp), (I2.out).there (w.heap.size + 1 + 1 + 1, 1) (by simp), (I2.out).froz (w.heap.size + 1 + 1, 0) (by simp), (I2.out).froz (w.heap.size + 1 + 1, 1) (by simp), (I2.out).froz (w.heap.size + 1 + 1 + 1, 0) (by simp), (I2.out).froz (w.heap.size + 1 + 1 + 1, 1) (by simp), (I2.out).lt (w.heap.size + 1 + 1, 0) (by simp), (I2.out).lt (w.heap.size + 1 + 1 + 1, 0) (by simp), I2.out⟩ (fun hHeld => ?_)
 clear hK K
 try simp only [Act.put, p1, p2, p3, p4, p5, p6]
 refine rd (rs := [6]) (by kernel_rfl) (by simp) ?_
 refine AllReadyH.cons rfl (fun K hK => ?_) AllReadyH.nil
 go_simp
 have I3 := Lib.hid (Keeps.set (Keeps.set (I2.out) (w.heap.size + 1 + 1) 0 (.int .i64 x) (by simp) (by omega) (by simp; try omega)) (w.heap.size + 1 + 1) 1 (.int .i64 y) (by simp) (by omega) (by simp; try omega))
 refine hK.out _ _ ⟨(I3.out).fixed (w.heap.size, 0, .int .i64 a) (by simp), (I3.out).fixed (w.heap.size, 1, .int .i64 b) (by simp), (I3.out).fixed (w.heap.size + 1, 0, .int .i64 c) (by simp), (I3.out).fixed (w.heap.size + 1, 1, .int .i64 d) (by simp), (I3.out).there (w.heap.size + 1 + 1, 0) (by simp), (I3.out).there (w.heap.size + 1 + 1, 1) (by simp), (I3.out).there (w.heap.size + 1 + 1 + 1, 0) (by simp), (I3.out).there (w.heap.size + 1 + 1 + 1, 1) (by simp), (I3.out).froz (w.heap.size + 1 + 1, 0) (by simp), (I3.out).froz (w.heap.size + 1 + 1, 1) (by simp), (I3.out).froz (w.heap.size + 1 + 1 + 1, 0) (by simp), (I3.out).froz (w.heap.size + 1 + 1 + 1, 1) (by simp), (I3.out).lt (w.heap.size + 1 + 1, 0) (by simp), (I3.out).lt (w.heap.size + 1 + 1 + 1, 0) (by simp), I3.out⟩ (fun hHeld => ?_)
 clear hK K
 try simp only [Act.put, p1, p2, p3, p4, p5, p6]
 refine rd (rs := [7]) (by kernel_rfl) (by simp) ?_
 refine AllReadyH.cons rfl (fun K hK => ?_) AllReadyH.nil
 go_simp
 have I4 := Lib.hid (Keeps.set (Keeps.set (I3.out) (w.heap.size + 1 + 1 + 1) 0 (.int .i64 u) (by simp) (by omega) (by simp; try omega)) (w.heap.size + 1 + 1 + 1) 1 (.int .i64 v) (by simp) (by omega) (by simp; try omega))
 refine hK.out _ _ ⟨(I4.out).fixed (w.heap.size, 0, .int .i64 a) (by simp), (I4.out).fixed (w.heap.size, 1, .int .i64 b) (by simp), (I4.out).fixed (w.heap.size + 1, 0, .int .i64 c) (by simp), (I4.out).fixed (w.heap.size + 1, 1, .int .i64 d) (by simp), (I4.out).there (w.heap.size + 1 + 1, 0) (by simp), (I4.out).there (w.heap.size + 1 + 1, 1) (by simp), (I4.out).there (w.heap.size + 1 + 1 + 1, 0) (by simp), (I4.out).there (w.heap.size + 1 + 1 + 1, 1) (by simp), (I4.out).froz (w.heap.size + 1 + 1, 0) (by simp), (I4.out).froz (w.heap.size + 1 + 1, 1) (by simp), (I4.out).froz (w.heap.size + 1 + 1 + 1, 0) (by simp), (I4.out).froz (w.heap.size + 1 + 1 + 1, 1) (by simp), (I4.out).lt (w.heap.size + 1 + 1, 0) (by simp), (I4.out).lt (w.heap.size + 1 + 1 + 1, 0) (by simp), I4.out⟩ (fun hHeld => ?_)
 clear hK K
 try simp only [Act.put, p1, p2, p3, p4, p5, p6]
 refine tk (i := 8) (v := ?_) rfl (by kernel_rfl) (by kernel_rfl) (by kernel_rfl) (fun _ _ _ h => h) (Or.inl ⟨by rfl, ?_⟩) (by assumption) ?_
 rotate_left
 focus (intro w' hSw; (try dsimp only at hSw); go_simp; try with_reducible rfl)
 try simp only [Act.put, p1, p2, p3, p4, p5, p6]
 refine wpAnyH_done (by kernel_rfl) ?_ _
 have e0 : wq2.cell? ⟨w.heap.size + 1 + 1, 0, none⟩ = some (valAt wq2 ⟨w.heap.size + 1 + 1, 0, none⟩) := (I2.out).there (w.heap.size + 1 + 1, 0) (by simp)
 have e1 : wq2.cell? ⟨w.heap.size + 1 + 1, 1, none⟩ = some (valAt wq2 ⟨w.heap.size + 1 + 1, 1, none⟩) := (I2.out).there (w.heap.size + 1 + 1, 1) (by simp)
 have e2 : wq2.cell? ⟨w.heap.size + 1 + 1 + 1, 0, none⟩ = some (valAt wq2 ⟨w.heap.size + 1 + 1 + 1, 0, none⟩) := (I2.out).there (w.heap.size + 1 + 1 + 1, 0) (by simp)
 have e3 : wq2.cell? ⟨w.heap.size + 1 + 1 + 1, 1, none⟩ = some (valAt wq2 ⟨w.heap.size + 1 + 1 + 1, 1, none⟩) := (I2.out).there (w.heap.size + 1 + 1 + 1, 1) (by simp)
 have bl := (I4.out).bl
 go_wp2
 refine bodyPost_ret (v := TwoV ⟨x, y, u, v, true⟩) (by simp [results, Try.results72, go_sem, TwoV, e0, e1, e2, e3]) rfl ⟨rfl, bl⟩
/-- A function that narrows two ranges, by a comparison. -/
def NarOut (f : Nat) (op : Int) : Prop := ∀ (a b c d : Int) (w : World), Ok64 a b → Ok64 c d → Calls Try.prog f #[.agg #[.int .i64 a, .int .i64 b], .agg #[.int .i64 c, .int .i64 d]] w fun e w' => e = .returned (TwoV (narS op a b c d)) ∧ Below w.heap.size w w'
theorem wo_eq (a b c d : Int) (h : a ≤ b) (hn : ¬ (a = b ∧ a = c ∧ c = d)) :
   (if (c == d) = true then woLow a b c else a) = (woS a b c d).1 ∧ (if (c == d) = true then woHigh a b c else b) = (woS a b c d).2 ∧ (woS a b c d).1 ≤ (woS a b c d).2 := by
 unfold woLow woHigh woS
 by_cases k1 : c = d
 · have e : (c == d) = true := by simpa using k1
   rw [if_pos e, if_pos e, if_pos k1]
   by_cases k3 : a = c
   · have n1 : ¬ (a = b ∧ a = c) := fun q => hn ⟨q.1, q.2, k1⟩
     rw [if_neg n1, if_neg n1, if_pos k3, if_pos k3, if_pos k3]
     refine ⟨by rw [k3], rfl, ?_⟩
     show a + 1 ≤ b
     omega
   · have n1 : ¬ (a = b ∧ a = c) := fun q => k3 q.2
     rw [if_neg n1, if_neg n1, if_neg k3, if_neg k3, if_neg k3]
     by_cases k4 : b = c
     · rw [if_pos k4, if_pos k4]
       refine ⟨rfl, by rw [k4], ?_⟩
       show a ≤ b - 1
       omega
     · rw [if_neg k4, if_neg k4]
       exact ⟨rfl, rfl, h⟩
 · have e : ¬ (c == d) = true := by simpa using k1
   rw [if_neg e, if_neg e, if_neg k1]
   exact ⟨rfl, rfl, h⟩
theorem pequal_nar : NarOut 71 11 := by
 intro a b c d w h g
 have e : narS 11 a b c d = ⟨(comS a b c d).1, (comS a b c d).2.1, (comS a b c d).1, (comS a b c d).2.1, (comS a b c d).2.2⟩ := by
   unfold narS comS
   show (if (eqLeft a b c d).p = true then eqLeft a b c d else _) = _
   unfold eqLeft
   by_cases hm : max a c ≤ min b d
   · rw [if_pos hm, if_pos hm]; rfl
   · rw [if_neg hm, if_neg hm]; rfl
 rw [e]
 exact pequal_of a b c d _ _ _ w (fun w => Lib.hid (pcommon_any a b c d w))
theorem punequal_nar : NarOut 72 12 := by
 intro a b c d w h g
 obtain ⟨h1, h2, h3⟩ := h
 obtain ⟨g1, g2, g3⟩ := g
 by_cases hz : a = b ∧ a = c ∧ c = d
 · obtain ⟨rfl, rfl, rfl⟩ := hz
   have e : narS 12 a a a a = ⟨0, 0, 0, 0, false⟩ := by
     unfold narS
     show (if (neLeft a a a a).p = true then _ else _) = _
     rw [if_neg]
     simp [neLeft, woLow, woHigh]
   rw [e]
   exact punequal_no a a w rfl
 · have W1 := fun w => Lib.hid (pwithout_any a b c d w ⟨h1, h2, h3⟩ hz)
   have W2 := fun w => Lib.hid (pwithout_any c d a b w ⟨g1, g2, g3⟩ (by omega))
   have e : narS 12 a b c d = ⟨(woS a b c d).1, (woS a b c d).2, (woS c d a b).1, (woS c d a b).2, true⟩ := by
     unfold narS
     show (if (neLeft a b c d).p = true then neLeft a b c d else _) = _
     obtain ⟨e1, e2, e3⟩ := wo_eq a b c d h1 hz
     obtain ⟨f1, f2, f3⟩ := wo_eq c d a b g1 (by omega)
     unfold neLeft
     simp only [e1, e2, f1, f2]
     rw [if_pos (by simp only [Bool.and_eq_true, decide_eq_true_eq]; exact ⟨e3, f3⟩)]
     simp [e3, f3]
   rw [e]
   by_cases q1 : a = c
   · by_cases q2 : b = d
     · refine punequal_3 a b c d _ _ _ _ w W1 W2 (by simpa using q1) (by simpa using q2) (fun w => Lib.hid ?_)
       have G := psingle_any a b w
       rw [show (a == b) = false by simp; omega] at G
       exact G
     · exact punequal_2 a b c d _ _ _ _ w W1 W2 (by simpa using q1) (by simpa using q2)
   · exact punequal_1 a b c d _ _ _ _ w W1 W2 (by simpa using q1)
end Go.Proofs.Ytgkhldbnljdeiaa
namespace Go.Proofs.Ytgkhldbnljdeiaa
open Go.RowKit
attribute [local go_sem] World.setCell_self
/-- What ordered returns. -/
def ordS (a b c d g : Int) : Two := if a + g ≤ d then ⟨a, min b (d - g), max c (a + g), d, true⟩ else ⟨0, 0, 0, 0, false⟩
theorem pord_any (a b c d g : Int) (w : World) (hg : g = 0 ∨ g = 1) (h1 : -9223372036854775808 ≤ a) (h2 : d ≤ 9223372036854775807) :
   Calls Try.prog 74 #[.agg #[.int .i64 a, .int .i64 b], .agg #[.int .i64 c, .int .i64 d], .int .i64 g] w fun e w' => e = .returned (TwoV (ordS a b c d g)) ∧ Below w.heap.size w w' := by
 unfold ordS
 by_cases h : a + g ≤ d
 · rw [if_pos h]; exact pord_yes a b c d g _ _ w hg h h1 h2 rfl rfl
 · rw [if_neg h]; exact pord_no a b c d g w hg (by omega)
def Ord (a b c d g x0 x1 y0 y1 : Int) (p : Bool) : Prop := ∀ w, Hid (Calls Try.prog 74 #[.agg #[.int .i64 a, .int .i64 b], .agg #[.int .i64 c, .int .i64 d], .int .i64 g] w fun e w' => e = .returned (.tuple #[.agg #[.int .i64 x0, .int .i64 x1], .agg #[.int .i64 y0, .int .i64 y1], .bool p]) ∧ Below w.heap.size w w')
theorem pcmp1 (a b c d x0 x1 y0 y1 : Int) (p : Bool) (w : World) (O : Ord a b c d 1 x0 x1 y0 y1 p) :
   Calls Try.prog 73 #[.agg #[.int .i64 a, .int .i64 b], .agg #[.int .i64 c, .int .i64 d]] w fun e w' => e = .returned (TwoV ⟨x0, x1, y0, y1, p⟩) ∧ Below w.heap.size w w' := by
 have O := Lib.hid O
 go_enter Try.func73, Try.ntmps73
 go_wp2_with (go_at_call 74; refine (O.out _).out.mono ?_; rintro e w' ⟨rfl, hb⟩; have I := (narIn w a b c d).later hb; obtain ⟨a0, a1, b0, b1, u0, u1, v0, v1, fx0, fx1, fy0, fy1, sz, bl⟩ := I)
 refine bodyPost_ret (v := TwoV ⟨x0, x1, y0, y1, p⟩) (by simp [results, Try.results73, go_sem, TwoV, u0, u1, v0, v1]) rfl ⟨rfl, ?_⟩
 exact bl.setCell (by simp; omega) _ |>.setCell (by simp; omega) _ |>.setCell (by simp; omega) _ |>.setCell (by simp; omega) _
theorem pcmp2 (a b c d x0 x1 y0 y1 : Int) (p : Bool) (w : World) (O : Ord a b c d 0 x0 x1 y0 y1 p) :
   Calls Try.prog 75 #[.agg #[.int .i64 a, .int .i64 b], .agg #[.int .i64 c, .int .i64 d]] w fun e w' => e = .returned (TwoV ⟨x0, x1, y0, y1, p⟩) ∧ Below w.heap.size w w' := by
 have O := Lib.hid O
 go_enter Try.func75, Try.ntmps75
 go_wp2_with (go_at_call 74; refine (O.out _).out.mono ?_; rintro e w' ⟨rfl, hb⟩; have I := (narIn w a b c d).later hb; obtain ⟨a0, a1, b0, b1, u0, u1, v0, v1, fx0, fx1, fy0, fy1, sz, bl⟩ := I)
 refine bodyPost_ret (v := TwoV ⟨x0, x1, y0, y1, p⟩) (by simp [results, Try.results75, go_sem, TwoV, u0, u1, v0, v1]) rfl ⟨rfl, ?_⟩
 exact bl.setCell (by simp; omega) _ |>.setCell (by simp; omega) _ |>.setCell (by simp; omega) _ |>.setCell (by simp; omega) _
theorem pcmp3 (a b c d x0 x1 y0 y1 : Int) (p : Bool) (w : World) (O : Ord c d a b 1 y0 y1 x0 x1 p) :
   Calls Try.prog 76 #[.agg #[.int .i64 a, .int .i64 b], .agg #[.int .i64 c, .int .i64 d]] w fun e w' => e = .returned (TwoV ⟨x0, x1, y0, y1, p⟩) ∧ Below w.heap.size w w' := by
 have O := Lib.hid O
 go_enter Try.func76, Try.ntmps76
 go_wp2_with (go_at_call 74; refine (O.out _).out.mono ?_; rintro e w' ⟨rfl, hb⟩; have I := (narIn w a b c d).later hb; obtain ⟨a0, a1, b0, b1, u0, u1, v0, v1, fx0, fx1, fy0, fy1, sz, bl⟩ := I)
 go_region
 go_wp2
 refine bodyPost_ret (v := TwoV ⟨x0, x1, y0, y1, p⟩) (by simp [results, Try.results76, go_sem, TwoV, u0, u1, v0, v1]) rfl ⟨rfl, ?_⟩
 repeat (first | exact bl | refine Below.drew ?_ | refine Below.setCell ?_ (by simp; try omega) _)
theorem pcmp4 (a b c d x0 x1 y0 y1 : Int) (p : Bool) (w : World) (O : Ord c d a b 0 y0 y1 x0 x1 p) :
   Calls Try.prog 77 #[.agg #[.int .i64 a, .int .i64 b], .agg #[.int .i64 c, .int .i64 d]] w fun e w' => e = .returned (TwoV ⟨x0, x1, y0, y1, p⟩) ∧ Below w.heap.size w w' := by
 have O := Lib.hid O
 go_enter Try.func77, Try.ntmps77
 go_wp2_with (go_at_call 74; refine (O.out _).out.mono ?_; rintro e w' ⟨rfl, hb⟩; have I := (narIn w a b c d).later hb; obtain ⟨a0, a1, b0, b1, u0, u1, v0, v1, fx0, fx1, fy0, fy1, sz, bl⟩ := I)
 go_region
 go_wp2
 refine bodyPost_ret (v := TwoV ⟨x0, x1, y0, y1, p⟩) (by simp [results, Try.results77, go_sem, TwoV, u0, u1, v0, v1]) rfl ⟨rfl, ?_⟩
 repeat (first | exact bl | refine Below.drew ?_ | refine Below.setCell ?_ (by simp; try omega) _)
theorem narS_lt {a b c d : Int} (h : Ok64 a b) (g : Ok64 c d) : narS 13 a b c d = ordS a b c d 1 := by
 obtain ⟨h1, h2, h3⟩ := h
 obtain ⟨g1, g2, g3⟩ := g
 unfold narS ordS
 show (if (ltLeft a b c d).p = true then ltLeft a b c d else _) = _
 unfold ltLeft
 by_cases k : a + 1 ≤ d
 · have k2 : ¬ (d = -9223372036854775808 ∨ a = 9223372036854775807) := by omega
   rw [if_neg k2, if_pos k, if_pos (by simp; omega)]
   simp; omega
 · rw [if_neg k]
   by_cases k2 : d = -9223372036854775808 ∨ a = 9223372036854775807
   · rw [if_pos k2]; rfl
   · rw [if_neg k2, if_neg (by simp; omega)]
theorem narS_le {a b c d : Int} : narS 14 a b c d = ordS a b c d 0 := by
 unfold narS ordS
 show (if (leLeft a b c d).p = true then leLeft a b c d else _) = _
 unfold leLeft
 by_cases k : a ≤ d
 · rw [if_pos (by simpa using k), if_pos (by omega)]
   simp [k]
 · rw [if_neg (by simpa using k), if_neg (by omega)]
theorem narS_gt (a b c d : Int) : narS 15 a b c d = (narS 13 c d a b).swap := by
 unfold narS
 show (if (ltLeft c d a b).swap.p = true then (ltLeft c d a b).swap else _) = (if (ltLeft c d a b).p = true then ltLeft c d a b else _).swap
 by_cases k : (ltLeft c d a b).p = true
 · rw [if_pos k, if_pos (show (ltLeft c d a b).swap.p = true from k)]
 · rw [if_neg k, if_neg (show ¬ (ltLeft c d a b).swap.p = true from k)]; rfl
theorem narS_ge (a b c d : Int) : narS 16 a b c d = (narS 14 c d a b).swap := by
 unfold narS
 show (if (leLeft c d a b).swap.p = true then (leLeft c d a b).swap else _) = (if (leLeft c d a b).p = true then leLeft c d a b else _).swap
 by_cases k : (leLeft c d a b).p = true
 · rw [if_pos k, if_pos (show (leLeft c d a b).swap.p = true from k)]
 · rw [if_neg k, if_neg (show ¬ (leLeft c d a b).swap.p = true from k)]; rfl
theorem pcmp1_nar : NarOut 73 13 := by
 intro a b c d w h g
 rw [narS_lt h g]
 exact pcmp1 a b c d _ _ _ _ _ w (fun w => Lib.hid (pord_any a b c d 1 w (.inr rfl) h.lo g.hi))
theorem pcmp2_nar : NarOut 75 14 := by
 intro a b c d w h g
 rw [narS_le]
 exact pcmp2 a b c d _ _ _ _ _ w (fun w => Lib.hid (pord_any a b c d 0 w (.inl rfl) h.lo g.hi))
theorem pcmp3_nar : NarOut 76 15 := by
 intro a b c d w h g
 rw [narS_gt, narS_lt g h]
 exact pcmp3 a b c d _ _ _ _ _ w (fun w => Lib.hid (pord_any c d a b 1 w (.inr rfl) g.lo h.hi))
theorem pcmp4_nar : NarOut 77 16 := by
 intro a b c d w h g
 rw [narS_ge, narS_le]
 exact pcmp4 a b c d _ _ _ _ _ w (fun w => Lib.hid (pord_any c d a b 0 w (.inl rfl) g.lo h.hi))
end Go.Proofs.Ytgkhldbnljdeiaa
