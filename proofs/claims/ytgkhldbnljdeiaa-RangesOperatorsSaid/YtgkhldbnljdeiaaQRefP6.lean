/- The contract of the reference function corners of layer 4 for the operator 6. -/
import Derived.Test.YtgkhldbnljdeiaaQRefNToRefO
set_option maxRecDepth 100000
set_option maxHeartbeats 2000000
set_option linter.unusedSimpArgs false
set_option linter.unusedVariables false
namespace Go.Proofs.Ytgkhldbnljdeiaa
open Go.RowKit
theorem corners_shl (a b c d : Int) (w : World) (n0 n1 n2 n3 : Int) (o0 o1 o2 o3 : Bool)
   (f0 : ∀ w, Hid (Calls Try.prog 56 #[.int .i64 a, .int .i64 c] w fun e w' => e = .returned (.tuple #[.int .i64 n0, .bool o0]) ∧ Below w.heap.size w w'))
   (f1 : ∀ w, Hid (Calls Try.prog 56 #[.int .i64 a, .int .i64 d] w fun e w' => e = .returned (.tuple #[.int .i64 n1, .bool o1]) ∧ Below w.heap.size w w'))
   (f2 : ∀ w, Hid (Calls Try.prog 56 #[.int .i64 b, .int .i64 c] w fun e w' => e = .returned (.tuple #[.int .i64 n2, .bool o2]) ∧ Below w.heap.size w w'))
   (f3 : ∀ w, Hid (Calls Try.prog 56 #[.int .i64 b, .int .i64 d] w fun e w' => e = .returned (.tuple #[.int .i64 n3, .bool o3]) ∧ Below w.heap.size w w')) :
   Calls Try.prog 36 #[.int .i64 6, .agg #[.int .i64 a, .int .i64 b], .agg #[.int .i64 c, .int .i64 d]] w fun e w' => e = .returned (.agg #[.int .i64 (min (min (min n0 n1) n2) n3), .int .i64 (max (max (max n0 n1) n2) n3), .bool (((o0 || o1) || o2) || o3)]) ∧ Below w.heap.size w w' := by
 have A0 := fun (l h : Int) (o : Bool) w => Lib.hid (add_first l h n0 o o0 w)
 have A1 := fun (l h : Int) (o : Bool) w => Lib.hid (add_more l h n1 o o1 w)
 have A2 := fun (l h : Int) (o : Bool) w => Lib.hid (add_more l h n2 o o2 w)
 have A3 := fun (l h : Int) (o : Bool) w => Lib.hid (add_more l h n3 o o3 w)
 have A1 := A1 n0 n0 o0
 have A2 := A2 (min n0 n1) (max n0 n1) (o0 || o1)
 have A3 := A3 (min (min n0 n1) n2) (max (max n0 n1) n2) ((o0 || o1) || o2)
 have A0 := A0 0 0 false
 generalize min (min (min n0 n1) n2) n3 = l3 at *
 generalize max (max (max n0 n1) n2) n3 = h3 at *
 generalize (((o0 || o1) || o2) || o3) = q3 at *
 generalize min (min n0 n1) n2 = l2 at *
 generalize max (max n0 n1) n2 = h2 at *
 generalize ((o0 || o1) || o2) = q2 at *
 generalize min n0 n1 = l1 at *
 generalize max n0 n1 = h1 at *
 generalize (o0 || o1) = q1 at *
 go_enter Try.func36, Try.ntmps36
 go_upto_region 2 with fail
 go_cut [8, 9] (fun s8 s9 wx => ∃ p q : Nat, s8 = .pointer (some ⟨p, 0, none⟩) ∧ s9 = .pointer (some ⟨q, 0, none⟩) ∧ CornIn w wx a b c d p q 0 0 false)
 case first =>
   go_region
   · go_wp2
     go_meet
     exact ⟨w.heap.size + 1 + 1 + 1 + 1, w.heap.size + 1 + 1 + 1 + 1 + 1, rfl, rfl, by go_simp, by go_simp, by go_simp, by go_simp, by go_simp, by go_simp, by go_simp, by go_simp, by go_simp, by go_simp, by go_simp, by go_simp, by go_simp, by go_simp, by go_simp, by go_simp, by (simp; try omega), by (simp; try omega), by (simp; try omega), by (simp; try omega), by (simp; try omega), ((((((Below.refl _ _).alloc (Nat.le_refl _) _).alloc (by simp) _).alloc (by simp; omega) _).alloc (by simp; omega) _).alloc (by simp; omega) _ |>.alloc (by simp; omega) _).drew⟩
   · go_wp2
     go_meet
     exact ⟨w.heap.size + 1 + 1 + 1 + 1 + 1, w.heap.size + 1 + 1 + 1 + 1, rfl, rfl, by go_simp, by go_simp, by go_simp, by go_simp, by go_simp, by go_simp, by go_simp, by go_simp, by go_simp, by go_simp, by go_simp, by go_simp, by go_simp, by go_simp, by go_simp, by go_simp, by (simp; try omega), by (simp; try omega), by (simp; try omega), by (simp; try omega), by (simp; try omega), ((((((Below.refl _ _).alloc (Nat.le_refl _) _).alloc (by simp) _).alloc (by simp; omega) _).alloc (by simp; omega) _).alloc (by simp; omega) _ |>.alloc (by simp; omega) _).drew⟩
 case rest =>
   obtain ⟨p, q, rfl, rfl, I⟩ := hcut
   have J0 := Lib.hid I
   clear I
   go_wp2_with fail
   go_loopw [10] (fun i wr => (i = .int .i64 0 ∧ CornIn w wr a b c d p q 0 0 false) ∨ (i = .int .i64 1 ∧ CornIn w wr a b c d p q n0 n0 o0) ∨ (i = .int .i64 2 ∧ CornIn w wr a b c d p q l1 h1 q1) ∨ (i = .int .i64 3 ∧ CornIn w wr a b c d p q l2 h2 q2) ∨ (i = .int .i64 4 ∧ CornIn w wr a b c d p q l3 h3 q3)) (fun i _ => (4 - intOf i).toNat)
   case atStart => exact .inl ⟨rfl, J0.out⟩
   case round =>
     clear J0
     rcases hrel with ⟨rfl, I⟩ | ⟨rfl, I⟩ | ⟨rfl, I⟩ | ⟨rfl, I⟩ | ⟨rfl, I⟩
     · have ID : CornIn w wr.drew a b c d p q (0) (0) false := I.later (Below.refl _ _).drew
       have J := Lib.hid I
       obtain ⟨a0, a1, b0, b1, -, -, -, -, -, -, -, -, -, -, -, -, -, -, -, -, -, -⟩ := I
       have W0 : IntKind.i64.wrap 0 = 0 := by rw [IntKind.wrap_i64]; rfl
       have W1 : IntKind.i64.wrap 1 = 1 := by rw [IntKind.wrap_i64]; rfl
       have T0 : Int.tdiv 0 2 = 0 := by decide
       have V0 : IntKind.i64.wrap (Int.tdiv 0 2) = 0 := by rw [T0, IntKind.wrap_i64]; rfl
       go_wp2_with fail
       go_region_held3 (fun w' => w'.cell? ⟨p, 0, none⟩ = some (.int .i64 a) ∧ w'.cell? ⟨p, 1, none⟩ = some (.int .i64 b) ∧ w'.cell? ⟨q, 0, none⟩ = some (.int .i64 c) ∧ w'.cell? ⟨q, 1, none⟩ = some (.int .i64 d) ∧ CornIn w w' a b c d p q (0) (0) false)
         (first
           | exact ⟨a0, a1, b0, b1, ID⟩
           | (go_split_ands; exact ⟨cell_later hBq ‹_›, cell_later hBq ‹_›, cell_later hBq ‹_›, cell_later hBq ‹_›, CornIn.later ‹_› hBq⟩))
         ((go_at_call 56; (with_reducible refine (f0 _).out.mono ?_); rintro eq wq ⟨rfl, hBq⟩))
       rename_i hq
       obtain ⟨-, -, -, -, I2⟩ := hq
       clear a0 a1 b0 b1 ID J hBq W0 W1 T0 V0
       have J2 := Lib.hid I2
       obtain ⟨-, -, -, -, u0, u1, u2, -, -, -, fu0, fu1, fu2, -, -, -, sz, -, -, -, -, -⟩ := I2
       go_wp2_with fail
       refine (A0 _).out.mono ?_
       clear u0 u1 u2 fu0 fu1 fu2 sz
       rintro e3 w3 ⟨rfl, hB3⟩
       have I3 := J2.out.later hB3
       clear hB3 J2
       have J3 := I3.set (n0) (n0) o0
       obtain ⟨-, -, -, -, u0, u1, u2, -, -, -, fu0, fu1, fu2, -, -, -, sz, -, -, -, -, -⟩ := I3
       have J3 := Lib.hid J3
       go_wp2_with fail
       go_roundw
       case rel => exact .inr (.inl ⟨rfl, J3.out⟩)
       case measure => simp [intOf]
     · have ID : CornIn w wr.drew a b c d p q (n0) (n0) o0 := I.later (Below.refl _ _).drew
       have J := Lib.hid I
       obtain ⟨a0, a1, b0, b1, -, -, -, -, -, -, -, -, -, -, -, -, -, -, -, -, -, -⟩ := I
       have W0 : IntKind.i64.wrap 0 = 0 := by rw [IntKind.wrap_i64]; rfl
       have W1 : IntKind.i64.wrap 1 = 1 := by rw [IntKind.wrap_i64]; rfl
       have T1 : Int.tdiv 1 2 = 0 := by decide
       have V1 : IntKind.i64.wrap (Int.tdiv 1 2) = 0 := by rw [T1, IntKind.wrap_i64]; rfl
       go_wp2_with fail
       go_region_held3 (fun w' => w'.cell? ⟨p, 0, none⟩ = some (.int .i64 a) ∧ w'.cell? ⟨p, 1, none⟩ = some (.int .i64 b) ∧ w'.cell? ⟨q, 0, none⟩ = some (.int .i64 c) ∧ w'.cell? ⟨q, 1, none⟩ = some (.int .i64 d) ∧ CornIn w w' a b c d p q (n0) (n0) o0)
         (first
           | exact ⟨a0, a1, b0, b1, ID⟩
           | (go_split_ands; exact ⟨cell_later hBq ‹_›, cell_later hBq ‹_›, cell_later hBq ‹_›, cell_later hBq ‹_›, CornIn.later ‹_› hBq⟩))
         ((go_at_call 56; (with_reducible refine (f1 _).out.mono ?_); rintro eq wq ⟨rfl, hBq⟩))
       rename_i hq
       obtain ⟨-, -, -, -, I2⟩ := hq
       clear a0 a1 b0 b1 ID J hBq W0 W1 T1 V1
       have J2 := Lib.hid I2
       obtain ⟨-, -, -, -, u0, u1, u2, -, -, -, fu0, fu1, fu2, -, -, -, sz, -, -, -, -, -⟩ := I2
       go_wp2_with fail
       refine (A1 _).out.mono ?_
       clear u0 u1 u2 fu0 fu1 fu2 sz
       rintro e3 w3 ⟨rfl, hB3⟩
       have I3 := J2.out.later hB3
       clear hB3 J2
       have J3 := I3.set (l1) (h1) q1
       obtain ⟨-, -, -, -, u0, u1, u2, -, -, -, fu0, fu1, fu2, -, -, -, sz, -, -, -, -, -⟩ := I3
       have J3 := Lib.hid J3
       go_wp2_with fail
       go_roundw
       case rel => exact .inr (.inr (.inl ⟨rfl, J3.out⟩))
       case measure => simp [intOf]
     · have ID : CornIn w wr.drew a b c d p q (l1) (h1) q1 := I.later (Below.refl _ _).drew
       have J := Lib.hid I
       obtain ⟨a0, a1, b0, b1, -, -, -, -, -, -, -, -, -, -, -, -, -, -, -, -, -, -⟩ := I
       have W0 : IntKind.i64.wrap 0 = 0 := by rw [IntKind.wrap_i64]; rfl
       have W1 : IntKind.i64.wrap 1 = 1 := by rw [IntKind.wrap_i64]; rfl
       have T2 : Int.tdiv 2 2 = 1 := by decide
       have V2 : IntKind.i64.wrap (Int.tdiv 2 2) = 1 := by rw [T2, IntKind.wrap_i64]; rfl
       go_wp2_with fail
       go_region_held3 (fun w' => w'.cell? ⟨p, 0, none⟩ = some (.int .i64 a) ∧ w'.cell? ⟨p, 1, none⟩ = some (.int .i64 b) ∧ w'.cell? ⟨q, 0, none⟩ = some (.int .i64 c) ∧ w'.cell? ⟨q, 1, none⟩ = some (.int .i64 d) ∧ CornIn w w' a b c d p q (l1) (h1) q1)
         (first
           | exact ⟨a0, a1, b0, b1, ID⟩
           | (go_split_ands; exact ⟨cell_later hBq ‹_›, cell_later hBq ‹_›, cell_later hBq ‹_›, cell_later hBq ‹_›, CornIn.later ‹_› hBq⟩))
         ((go_at_call 56; (with_reducible refine (f2 _).out.mono ?_); rintro eq wq ⟨rfl, hBq⟩))
       rename_i hq
       obtain ⟨-, -, -, -, I2⟩ := hq
       clear a0 a1 b0 b1 ID J hBq W0 W1 T2 V2
       have J2 := Lib.hid I2
       obtain ⟨-, -, -, -, u0, u1, u2, -, -, -, fu0, fu1, fu2, -, -, -, sz, -, -, -, -, -⟩ := I2
       go_wp2_with fail
       refine (A2 _).out.mono ?_
       clear u0 u1 u2 fu0 fu1 fu2 sz
       rintro e3 w3 ⟨rfl, hB3⟩
       have I3 := J2.out.later hB3
       clear hB3 J2
       have J3 := I3.set (l2) (h2) q2
       obtain ⟨-, -, -, -, u0, u1, u2, -, -, -, fu0, fu1, fu2, -, -, -, sz, -, -, -, -, -⟩ := I3
       have J3 := Lib.hid J3
       go_wp2_with fail
       go_roundw
       case rel => exact .inr (.inr (.inr (.inl ⟨rfl, J3.out⟩)))
       case measure => simp [intOf]
     · have ID : CornIn w wr.drew a b c d p q (l2) (h2) q2 := I.later (Below.refl _ _).drew
       have J := Lib.hid I
       obtain ⟨a0, a1, b0, b1, -, -, -, -, -, -, -, -, -, -, -, -, -, -, -, -, -, -⟩ := I
       have W0 : IntKind.i64.wrap 0 = 0 := by rw [IntKind.wrap_i64]; rfl
       have W1 : IntKind.i64.wrap 1 = 1 := by rw [IntKind.wrap_i64]; rfl
       have T3 : Int.tdiv 3 2 = 1 := by decide
       have V3 : IntKind.i64.wrap (Int.tdiv 3 2) = 1 := by rw [T3, IntKind.wrap_i64]; rfl
       go_wp2_with fail
       go_region_held3 (fun w' => w'.cell? ⟨p, 0, none⟩ = some (.int .i64 a) ∧ w'.cell? ⟨p, 1, none⟩ = some (.int .i64 b) ∧ w'.cell? ⟨q, 0, none⟩ = some (.int .i64 c) ∧ w'.cell? ⟨q, 1, none⟩ = some (.int .i64 d) ∧ CornIn w w' a b c d p q (l2) (h2) q2)
         (first
           | exact ⟨a0, a1, b0, b1, ID⟩
           | (go_split_ands; exact ⟨cell_later hBq ‹_›, cell_later hBq ‹_›, cell_later hBq ‹_›, cell_later hBq ‹_›, CornIn.later ‹_› hBq⟩))
         ((go_at_call 56; (with_reducible refine (f3 _).out.mono ?_); rintro eq wq ⟨rfl, hBq⟩))
       rename_i hq
       obtain ⟨-, -, -, -, I2⟩ := hq
       clear a0 a1 b0 b1 ID J hBq W0 W1 T3 V3
       have J2 := Lib.hid I2
       obtain ⟨-, -, -, -, u0, u1, u2, -, -, -, fu0, fu1, fu2, -, -, -, sz, -, -, -, -, -⟩ := I2
       go_wp2_with fail
       refine (A3 _).out.mono ?_
       clear u0 u1 u2 fu0 fu1 fu2 sz
       rintro e3 w3 ⟨rfl, hB3⟩
       have I3 := J2.out.later hB3
       clear hB3 J2
       have J3 := I3.set (l3) (h3) q3
       obtain ⟨-, -, -, -, u0, u1, u2, -, -, -, fu0, fu1, fu2, -, -, -, sz, -, -, -, -, -⟩ := I3
       have J3 := Lib.hid J3
       go_wp2_with fail
       go_roundw
       case rel => exact .inr (.inr (.inr (.inr ⟨rfl, J3.out⟩)))
       case measure => simp [intOf]
     · have J := Lib.hid I
       obtain ⟨-, -, -, -, u0, u1, u2, r0, r1, r2, fu0, fu1, fu2, fr0, fr1, fr2, sz, -, -, -, -, bl⟩ := I
       go_wp2
       refine bodyPost_ret (v := .agg #[.int .i64 l3, .int .i64 h3, .bool q3]) (by simp [results, Try.results36, go_sem, *]) rfl ⟨rfl, ?_⟩
       exact ((bl.setCell (by simp; omega) _).setCell (by simp; omega) _).setCell (by simp; omega) _
end Go.Proofs.Ytgkhldbnljdeiaa
