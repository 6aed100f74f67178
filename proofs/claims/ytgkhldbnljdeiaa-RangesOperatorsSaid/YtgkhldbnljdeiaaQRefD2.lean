/- The walk of the reference function divided of layer 4. -/
import Derived.Test.YtgkhldbnljdeiaaPutRules
import Derived.Test.YtgkhldbnljdeiaaQRefYToRefD1
set_option maxRecDepth 100000
set_option maxHeartbeats 8000000
set_option linter.unusedSimpArgs false
set_option linter.unusedVariables false
namespace Go.Proofs.Ytgkhldbnljdeiaa
open Go.RowKit RangesMath
attribute [local go_sem] World.setCell_self
attribute [local go_sem ↓] Go.wp_at_zero Go.wp_at_succ
/-- How divided ends: without pairs; by rest; by the hull of the pairs' quotients. -/
def DivEnd (op a b x y : Int) (S : Bool) (p : List (Int × Int)) (q : List Pr) : Prop :=
 (q = [] ∧ x = 0 ∧ y = 0 ∧ S = false) ∨
 (q ≠ [] ∧ S = true ∧ (op == 3) = true ∧ ∀ (g cap : Nat) (wx : World), g < wx.heap.size → (∀ i v, (flat2 p)[i]? = some v → wx.cell? ⟨g, i, none⟩ = some v) → p.length ≤ cap →
   Hid (Calls Try.prog 64 #[.agg #[.int .i64 a, .int .i64 b], .slice (some ⟨g, 0, none⟩) p.length cap] wx fun e w' => e = .returned (.agg #[.int .i64 x, .int .i64 y]) ∧ Below wx.heap.size wx w')) ∨
 (q ≠ [] ∧ S = true ∧ (op == 3) = false ∧ x = hullLo q ∧ y = hullHi q ∧ ∀ pr ∈ q, ∀ wx : World,
   Hid (Calls Try.prog 36 #[.int .i64 2, .agg #[.int .i64 pr.a, .int .i64 pr.b], .agg #[.int .i64 pr.c, .int .i64 pr.d]] wx fun e w' => e = .returned (.agg #[.int .i64 pr.lo, .int .i64 pr.hi, .bool false]) ∧ Below wx.heap.size wx w'))
theorem divided_walk (op k a b c d x y : Int) (T U S : Bool) (w : World) (p : List (Int × Int)) (q : List Pr) (hp2 : p.length ≤ 2) (hq : Hid (pairsTo a b U p p.length = q))
   (hT : ∀ w, Hid (Calls Try.prog 62 #[.int .i64 0, .agg #[.int .i64 c, .int .i64 d]] w fun e w' => e = .returned (.bool T) ∧ Below w.heap.size w w'))
   (hU : ((k == 1) = false ∧ false = U) ∨ ((k == 1) = true ∧ (∀ w, Hid (Calls Try.prog 62 #[.int .i64 (-9223372036854775808), .agg #[.int .i64 a, .int .i64 b]] w fun e w' => e = .returned (.bool false) ∧ Below w.heap.size w w')) ∧ false = U) ∨
     ((k == 1) = true ∧ (∀ w, Hid (Calls Try.prog 62 #[.int .i64 (-9223372036854775808), .agg #[.int .i64 a, .int .i64 b]] w fun e w' => e = .returned (.bool true) ∧ Below w.heap.size w w')) ∧ (∀ w, Hid (Calls Try.prog 62 #[.int .i64 (-1), .agg #[.int .i64 c, .int .i64 d]] w fun e w' => e = .returned (.bool U) ∧ Below w.heap.size w w'))))
   (hP : ∀ w, Hid (Calls Try.prog 63 #[.agg #[.int .i64 c, .int .i64 d]] w (PartsOut p w)))
   (hE : Hid (DivEnd op a b x y S p q)) :
   Calls Try.prog 38 #[.int .i64 op, .int .i64 k, .agg #[.int .i64 a, .int .i64 b], .agg #[.int .i64 c, .int .i64 d]] w fun e w' => e = .returned (.agg #[.int .i64 x, .int .i64 y, .bool S, .bool T, .bool U]) ∧ Below w.heap.size w w' := by
 obtain ⟨i0, hi, hz0, hz1, hz2⟩ := info_parts info_pair
 go_enter Try.func38, Try.ntmps38
 go_upto_region 1 with fail
 have J := Lib.hid (divPre w a b c d)
 generalize (((w.alloc (.cells #[.int .i64 a, .int .i64 b] 23)).alloc (.cells #[.int .i64 c, .int .i64 d] 23)).alloc (.cells #[.int .i64 0, .int .i64 0, .bool false, .bool false, .bool false] 37)) = W at *
 go_cut [9] (fun s9 wx => ∃ nx, s9 = .pointer (some ⟨nx, 0, none⟩) ∧ DivIn w wx a b nx 0 0 false T U ∧ DivPre w wx a b c d)
 case first =>
   obtain ⟨a0, a1, b0, b1, r0, r1, r2, r3, r4, fr0, fr1, fr2, fr3, fr4, s0, s1, s2, bl⟩ := J.out
   go_wp2_with fail
   refine (hT _).out.mono ?_
   clear a0 a1 b0 b1 r0 r1 r2 r3 r4 fr0 fr1 fr2 fr3 fr4 s0 s1 s2 bl
   rintro e w1 ⟨rfl, hB1⟩
   have J1 := Lib.hid (J.out.later hB1)
   clear hB1 J
   obtain ⟨a0, a1, b0, b1, r0, r1, r2, r3, r4, fr0, fr1, fr2, fr3, fr4, s0, s1, s2, bl⟩ := J1.out
   rcases hU with ⟨hk, rfl⟩ | ⟨hk, hU1, rfl⟩ | ⟨hk, hU1, hU2⟩
   · go_wp2_with fail
     go_meet
     exact ⟨_, rfl, J1.out.make _ _, J1.out.later ((Below.refl _ _).alloc (Nat.le_refl _) _)⟩
   · go_wp2_with fail
     refine (hU1 _).out.mono ?_
     clear a0 a1 b0 b1 r0 r1 r2 r3 r4 fr0 fr1 fr2 fr3 fr4 s0 s1 s2 bl
     rintro e w2 ⟨rfl, hB2⟩
     have J2 := Lib.hid (J1.out.later hB2)
     clear hB2 J1
     go_wp2_with fail
     go_meet
     exact ⟨_, rfl, J2.out.make _ _, J2.out.later ((Below.refl _ _).alloc (Nat.le_refl _) _)⟩
   · go_wp2_with fail
     refine (hU1 _).out.mono ?_
     clear a0 a1 b0 b1 r0 r1 r2 r3 r4 fr0 fr1 fr2 fr3 fr4 s0 s1 s2 bl
     rintro e w2 ⟨rfl, hB2⟩
     have J2 := Lib.hid (J1.out.later hB2)
     clear hB2 J1
     obtain ⟨a0, a1, b0, b1, r0, r1, r2, r3, r4, fr0, fr1, fr2, fr3, fr4, s0, s1, s2, bl⟩ := J2.out
     go_wp2_with fail
     refine (hU2 _).out.mono ?_
     clear a0 a1 b0 b1 r0 r1 r2 r3 r4 fr0 fr1 fr2 fr3 fr4 s0 s1 s2 bl
     rintro e w3 ⟨rfl, hB3⟩
     have J3 := Lib.hid (J2.out.later hB3)
     clear hB3 J2
     go_wp2_with fail
     go_meet
     exact ⟨_, rfl, J3.out.make _ _, J3.out.later ((Below.refl _ _).alloc (Nat.le_refl _) _)⟩
 case rest =>
   obtain ⟨nx, rfl, I, I'⟩ := hcut
   clear J hT hU
   have b0 := I'.b0
   have b1 := I'.b1
   have s1 := I'.s1
   clear I'
   have J := Lib.hid I
   have SC := I.sx
   clear I
   go_wp2_with fail
   refine (hP _).out.mono ?_
   clear b0 b1 s1
   rintro e w3 ⟨vp, rfl, hown, hB⟩
   have J3 := Lib.hid (J.out.later hB)
   have row := Lib.hid (owns_form hown)
   clear hown hB J
   obtain ⟨op0, capp, rfl, hcap, hrow⟩ := row.out
   clear row
   have HR := Lib.hid hrow
   clear hrow
   go_wp2_with fail
   go_loopw [10, 12] (fun v i wr => ∃ m : Nat, i = .int .i64 m ∧ m ≤ p.length ∧ Below w3.heap.size w3 wr ∧ wr.ownsRow w3.heap.size 44 4 v (pairsTo a b U p m).length (flat4 (pairsTo a b U p m))) (fun _ i _ => (p.length - intOf i).toNat)
   case atStart => exact ⟨0, rfl, Nat.zero_le _, Below.refl _ _, World.ownsRow_nil _ _ _ _⟩
   case round =>
     obtain ⟨m, rfl, hm, hb, hown⟩ := hrel
     have HO := Lib.hid hown
     have HF := Lib.hid (owns_form hown)
     have HB := Lib.hid hb
     clear hown hb
     have hlen := pairsTo_len a b U p m
     obtain ⟨oq, capq, rfl, hcapq, hqf⟩ := HF.out
     clear HF
     have HQ := Lib.hid hqf
     clear hqf
     generalize hN : (pairsTo a b U p m).length = n at *
     have HN := Lib.hid hN
     clear hN
     by_cases hlt : m < p.length
     · obtain ⟨g, rfl, hg1, hg2, hcell⟩ := HR.out.resolve_left (by omega)
       obtain ⟨p0, p1⟩ := flat2_at p m hlt
       have P0 := hcell _ _ p0
       have P1 := hcell _ _ p1
       clear hcell p0 p1
       have hstep := Lib.hid (pairsTo_step a b U p m hlt)
       generalize (p[m]'hlt) = pm at *
       obtain ⟨lo, hi2⟩ := pm
       simp only at P0 P1
       have A0 := J3.out.a0
       have A1 := J3.out.a1
       have X4 := J3.out.x4
       have S0 := J3.out.s0
       have SX := J3.out.sx
       have m0 : (0 : Int) ≤ (m : Int) := by omega
       have m1 : (m : Int) < (p.length : Int) := by omega
       have a0 := at_below HB.out S0 A0
       have a1 := at_below HB.out S0 A1
       have x4 := at_below HB.out SX X4
       have p0 := at_below HB.out hg2 P0
       have p1 := at_below HB.out hg2 P1
       by_cases hA : U = false ∨ 0 < hi2
       · have hpo : pairsOf a b U (lo, hi2) = [⟨a, b, lo, hi2⟩] := if_pos hA
         have HP2 := Lib.hid (hstep.out.trans (by rw [hpo]))
         clear hpo hstep
         cases U
         · clear hA
           go_upto_region 8 with fail
           refine wp_region_held_drew (S := fun w' => Below w3.heap.size w3 w') (by kernel_rfl) HB.out.drew (fun hHeld => ?_)
           have HO1 := Lib.hid (show wr.drew.ownsRow w3.heap.size 44 4 _ _ _ from HO.out)
           have HB1 := Lib.hid HB.out.drew
           clear HO HB a0 a1 x4 p0 p1
           generalize wr.drew = V at *
           refine tk (i := 0) (v := ?_) rfl (by kernel_rfl) (by kernel_rfl) (by kernel_rfl) (fun _ _ _ h => h) (Or.inl ⟨by rfl, ?_⟩) (by assumption) ?_
           rotate_left
           focus (intro w' hSw; have a0 := at_below hSw S0 A0; have a1 := at_below hSw S0 A1; have p0 := at_below hSw hg2 P0; have p1 := at_below hSw hg2 P1; clear hSw; go_simp; try with_reducible rfl)
           try simp only [Act.put, p1, p2, p3, p4, p5, p6]
           refine tk (i := 1) (v := ?_) rfl (by kernel_rfl) (by kernel_rfl) (by kernel_rfl) (fun _ _ _ h => h) (Or.inl ⟨by rfl, ?_⟩) (by assumption) ?_
           rotate_left
           focus (intro w' hSw; have a0 := at_below hSw S0 A0; have a1 := at_below hSw S0 A1; have p0 := at_below hSw hg2 P0; have p1 := at_below hSw hg2 P1; clear hSw; go_simp; try with_reducible rfl)
           try simp only [Act.put, p1, p2, p3, p4, p5, p6]
           refine tk (i := 2) (v := ?_) rfl (by kernel_rfl) (by kernel_rfl) (by kernel_rfl) (fun _ _ _ h => h) (Or.inl ⟨by rfl, ?_⟩) (by assumption) ?_
           rotate_left
           focus (intro w' hSw; have a0 := at_below hSw S0 A0; have a1 := at_below hSw S0 A1; have p0 := at_below hSw hg2 P0; have p1 := at_below hSw hg2 P1; clear hSw; go_simp; try with_reducible rfl)
           try simp only [Act.put, p1, p2, p3, p4, p5, p6]
           refine tk (i := 3) (v := ?_) rfl (by kernel_rfl) (by kernel_rfl) (by kernel_rfl) (fun _ _ _ h => h) (Or.inl ⟨by rfl, ?_⟩) (by assumption) ?_
           rotate_left
           focus (intro w' hSw; have a0 := at_below hSw S0 A0; have a1 := at_below hSw S0 A1; have p0 := at_below hSw hg2 P0; have p1 := at_below hSw hg2 P1; clear hSw; go_simp; try with_reducible rfl)
           try simp only [Act.put, p1, p2, p3, p4, p5, p6]
           refine tk (i := 4) (v := ?_) rfl (by kernel_rfl) (by kernel_rfl) (by kernel_rfl) (fun _ _ _ h => h) (Or.inl ⟨by rfl, ?_⟩) (by assumption) ?_
           rotate_left
           focus (intro w' hSw; have a0 := at_below hSw S0 A0; have a1 := at_below hSw S0 A1; have p0 := at_below hSw hg2 P0; have p1 := at_below hSw hg2 P1; clear hSw; go_simp; try with_reducible rfl)
           try simp only [Act.put, p1, p2, p3, p4, p5, p6]
           refine tk (i := 5) (v := ?_) rfl (by kernel_rfl) (by kernel_rfl) (by kernel_rfl) (fun _ _ _ h => h) (Or.inl ⟨by rfl, ?_⟩) (by assumption) ?_
           rotate_left
           focus (intro w' hSw; have a0 := at_below hSw S0 A0; have a1 := at_below hSw S0 A1; have p0 := at_below hSw hg2 P0; have p1 := at_below hSw hg2 P1; clear hSw; go_simp; try with_reducible rfl)
           try simp only [Act.put, p1, p2, p3, p4, p5, p6]
           refine tk (i := 6) (v := ?_) rfl (by kernel_rfl) (by kernel_rfl) (by kernel_rfl) (fun _ _ _ h => h) (Or.inl ⟨by rfl, ?_⟩) (by assumption) ?_
           rotate_left
           focus (intro w' hSw; have a0 := at_below hSw S0 A0; have a1 := at_below hSw S0 A1; have p0 := at_below hSw hg2 P0; have p1 := at_below hSw hg2 P1; clear hSw; go_simp; try with_reducible rfl)
           try simp only [Act.put, p1, p2, p3, p4, p5, p6]
           refine rd (rs := [7]) (by kernel_rfl) (by simp) ?_
           refine AllReadyH.cons rfl (fun K hK => ?_) AllReadyH.nil
           go_simp
           refine hK.out _ _ (HB1.out.alloc HB1.out.size _) (fun hHeld => ?_)
           clear hK K
           try simp only [Act.put, p1, p2, p3, p4, p5, p6]
           refine rd (rs := [8]) (by kernel_rfl) (by simp) ?_
           refine AllReadyH.cons rfl (fun K hK => ?_) AllReadyH.nil
           refine step_append_lies _ (by rfl) (.tmp 48) (.tmp 55) 104 (by rfl) w3.heap.size 44 i0 _ 4 32 Try.underlying104 hi hz0 hz1 hz2 rfl (by omega) _ _ _ (by rfl) (HO1.out.alloc _) ⟨_, 0, none⟩ 1 1 [.int .i64 a, .int .i64 b, .int .i64 lo, .int .i64 hi2] (by rfl) (by rfl) (World.news_of_block (heap_alloc_new _ _)) (by intro u hu; simp at hu; rcases hu with rfl | rfl | rfl | rfl <;> rfl) (by omega) (by unfold maxLen; omega) (by omega) (by have := HB1.out.size; simp; omega) _ rfl ?_
           intro g1 cap1 w1 hown1 hgrow1 hat1 hlt1
           have HB2 := Lib.hid (below_grown (HB1.out.alloc HB1.out.size _) hgrow1 (fun k hk => (HO1.out.lt k hk).1) (by have := HB1.out.size; simp; omega))
           have HO2 := Lib.hid hown1
           clear hown1 hgrow1 hat1
           refine hK.out _ _ HB2.out (fun hHeld => ?_)
           clear hK K
           try simp only [Act.put, p1, p2, p3, p4, p5, p6]
           refine tk (i := 9) (v := ?_) rfl (by kernel_rfl) (by kernel_rfl) (by kernel_rfl) (fun _ _ _ h => h) (Or.inl ⟨by rfl, ?_⟩) (by assumption) ?_
           rotate_left
           focus (intro w' hSw; have a0 := at_below hSw S0 A0; have a1 := at_below hSw S0 A1; have p0 := at_below hSw hg2 P0; have p1 := at_below hSw hg2 P1; clear hSw; go_simp; try with_reducible rfl)
           try simp only [Act.put, p1, p2, p3, p4, p5, p6]
           refine wpAnyH_done (by kernel_rfl) ?_ _
           go_wp2_with fail
           go_roundw
           case rel => exact ⟨m + 1, by go_num, by omega, HB2.out, by rw [HP2.out, List.length_append, HN.out, flat4_append]; exact HO2.out⟩
           case measure => simp [intOf]; omega
         · replace hA : 0 < hi2 := by simpa using hA
           go_upto_region 8 with fail
           refine wp_region_held_drew (S := fun w' => Below w3.heap.size w3 w') (by kernel_rfl) HB.out.drew (fun hHeld => ?_)
           have HO1 := Lib.hid (show wr.drew.ownsRow w3.heap.size 44 4 _ _ _ from HO.out)
           have HB1 := Lib.hid HB.out.drew
           clear HO HB a0 a1 x4 p0 p1
           generalize wr.drew = V at *
           refine tk (i := 0) (v := ?_) rfl (by kernel_rfl) (by kernel_rfl) (by kernel_rfl) (fun _ _ _ h => h) (Or.inl ⟨by rfl, ?_⟩) (by assumption) ?_
           rotate_left
           focus (intro w' hSw; have a0 := at_below hSw S0 A0; have a1 := at_below hSw S0 A1; have p0 := at_below hSw hg2 P0; have p1 := at_below hSw hg2 P1; clear hSw; go_simp; try with_reducible rfl)
           try simp only [Act.put, p1, p2, p3, p4, p5, p6]
           refine tk (i := 1) (v := ?_) rfl (by kernel_rfl) (by kernel_rfl) (by kernel_rfl) (fun _ _ _ h => h) (Or.inl ⟨by rfl, ?_⟩) (by assumption) ?_
           rotate_left
           focus (intro w' hSw; have a0 := at_below hSw S0 A0; have a1 := at_below hSw S0 A1; have p0 := at_below hSw hg2 P0; have p1 := at_below hSw hg2 P1; clear hSw; go_simp; try with_reducible rfl)
           try simp only [Act.put, p1, p2, p3, p4, p5, p6]
           refine tk (i := 2) (v := ?_) rfl (by kernel_rfl) (by kernel_rfl) (by kernel_rfl) (fun _ _ _ h => h) (Or.inl ⟨by rfl, ?_⟩) (by assumption) ?_
           rotate_left
           focus (intro w' hSw; have a0 := at_below hSw S0 A0; have a1 := at_below hSw S0 A1; have p0 := at_below hSw hg2 P0; have p1 := at_below hSw hg2 P1; clear hSw; go_simp; try with_reducible rfl)
           try simp only [Act.put, p1, p2, p3, p4, p5, p6]
           refine tk (i := 3) (v := ?_) rfl (by kernel_rfl) (by kernel_rfl) (by kernel_rfl) (fun _ _ _ h => h) (Or.inl ⟨by rfl, ?_⟩) (by assumption) ?_
           rotate_left
           focus (intro w' hSw; have a0 := at_below hSw S0 A0; have a1 := at_below hSw S0 A1; have p0 := at_below hSw hg2 P0; have p1 := at_below hSw hg2 P1; clear hSw; go_simp; try with_reducible rfl)
           try simp only [Act.put, p1, p2, p3, p4, p5, p6]
           refine tk (i := 4) (v := ?_) rfl (by kernel_rfl) (by kernel_rfl) (by kernel_rfl) (fun _ _ _ h => h) (Or.inl ⟨by rfl, ?_⟩) (by assumption) ?_
           rotate_left
           focus (intro w' hSw; have a0 := at_below hSw S0 A0; have a1 := at_below hSw S0 A1; have p0 := at_below hSw hg2 P0; have p1 := at_below hSw hg2 P1; clear hSw; go_simp; try with_reducible rfl)
           try simp only [Act.put, p1, p2, p3, p4, p5, p6]
           refine tk (i := 5) (v := ?_) rfl (by kernel_rfl) (by kernel_rfl) (by kernel_rfl) (fun _ _ _ h => h) (Or.inl ⟨by rfl, ?_⟩) (by assumption) ?_
           rotate_left
           focus (intro w' hSw; have a0 := at_below hSw S0 A0; have a1 := at_below hSw S0 A1; have p0 := at_below hSw hg2 P0; have p1 := at_below hSw hg2 P1; clear hSw; go_simp; try with_reducible rfl)
           try simp only [Act.put, p1, p2, p3, p4, p5, p6]
           refine tk (i := 6) (v := ?_) rfl (by kernel_rfl) (by kernel_rfl) (by kernel_rfl) (fun _ _ _ h => h) (Or.inl ⟨by rfl, ?_⟩) (by assumption) ?_
           rotate_left
           focus (intro w' hSw; have a0 := at_below hSw S0 A0; have a1 := at_below hSw S0 A1; have p0 := at_below hSw hg2 P0; have p1 := at_below hSw hg2 P1; clear hSw; go_simp; try with_reducible rfl)
           try simp only [Act.put, p1, p2, p3, p4, p5, p6]
           refine rd (rs := [7]) (by kernel_rfl) (by simp) ?_
           refine AllReadyH.cons rfl (fun K hK => ?_) AllReadyH.nil
           go_simp
           refine hK.out _ _ (HB1.out.alloc HB1.out.size _) (fun hHeld => ?_)
           clear hK K
           try simp only [Act.put, p1, p2, p3, p4, p5, p6]
           refine rd (rs := [8]) (by kernel_rfl) (by simp) ?_
           refine AllReadyH.cons rfl (fun K hK => ?_) AllReadyH.nil
           refine step_append_lies _ (by rfl) (.tmp 48) (.tmp 55) 104 (by rfl) w3.heap.size 44 i0 _ 4 32 Try.underlying104 hi hz0 hz1 hz2 rfl (by omega) _ _ _ (by rfl) (HO1.out.alloc _) ⟨_, 0, none⟩ 1 1 [.int .i64 a, .int .i64 b, .int .i64 lo, .int .i64 hi2] (by rfl) (by rfl) (World.news_of_block (heap_alloc_new _ _)) (by intro u hu; simp at hu; rcases hu with rfl | rfl | rfl | rfl <;> rfl) (by omega) (by unfold maxLen; omega) (by omega) (by have := HB1.out.size; simp; omega) _ rfl ?_
           intro g1 cap1 w1 hown1 hgrow1 hat1 hlt1
           have HB2 := Lib.hid (below_grown (HB1.out.alloc HB1.out.size _) hgrow1 (fun k hk => (HO1.out.lt k hk).1) (by have := HB1.out.size; simp; omega))
           have HO2 := Lib.hid hown1
           clear hown1 hgrow1 hat1
           refine hK.out _ _ HB2.out (fun hHeld => ?_)
           clear hK K
           try simp only [Act.put, p1, p2, p3, p4, p5, p6]
           refine tk (i := 9) (v := ?_) rfl (by kernel_rfl) (by kernel_rfl) (by kernel_rfl) (fun _ _ _ h => h) (Or.inl ⟨by rfl, ?_⟩) (by assumption) ?_
           rotate_left
           focus (intro w' hSw; have a0 := at_below hSw S0 A0; have a1 := at_below hSw S0 A1; have p0 := at_below hSw hg2 P0; have p1 := at_below hSw hg2 P1; clear hSw; go_simp; try with_reducible rfl)
           try simp only [Act.put, p1, p2, p3, p4, p5, p6]
           refine wpAnyH_done (by kernel_rfl) ?_ _
           go_wp2_with fail
           go_roundw
           case rel => exact ⟨m + 1, by go_num, by omega, HB2.out, by rw [HP2.out, List.length_append, HN.out, flat4_append]; exact HO2.out⟩
           case measure => simp [intOf]; omega
       · obtain rfl : U = true := by cases U <;> simp at hA ⊢
         have hA' : ¬ 0 < hi2 := by simpa using hA
         have hpo := Lib.hid (show pairsOf a b true (lo, hi2) = (if lo < -1 then [⟨a, b, lo, -2⟩] else []) ++ (if least < b then [⟨least + 1, b, -1, -1⟩] else []) from if_neg hA)
         clear hA
         by_cases hB1 : lo < -1
         · by_cases hB2 : -9223372036854775808 < b
           · have HP2 := Lib.hid (hstep.out.trans (by rw [hpo.out, if_pos hB1, if_pos hB2]; rfl : _ = pairsTo a b true p m ++ [⟨a, b, lo, -2⟩, ⟨-9223372036854775807, b, -1, -1⟩]))
             clear hpo hstep
             go_upto_region 10 with fail
             refine wp_region_held_drew (S := fun w' => Below w3.heap.size w3 w') (by kernel_rfl) HB.out.drew (fun hHeld => ?_)
             have HO1 := Lib.hid (show wr.drew.ownsRow w3.heap.size 44 4 _ _ _ from HO.out)
             have HB1 := Lib.hid HB.out.drew
             clear HO HB a0 a1 x4 p0 p1
             generalize wr.drew = V at *
             refine tk (i := 0) (v := ?_) rfl (by kernel_rfl) (by kernel_rfl) (by kernel_rfl) (fun _ _ _ h => h) (Or.inl ⟨by rfl, ?_⟩) (by assumption) ?_
             rotate_left
             focus (intro w' hSw; have a0 := at_below hSw S0 A0; have a1 := at_below hSw S0 A1; have p0 := at_below hSw hg2 P0; have p1 := at_below hSw hg2 P1; clear hSw; go_simp; try with_reducible rfl)
             try simp only [Act.put, p1, p2, p3, p4, p5, p6]
             refine tk (i := 1) (v := ?_) rfl (by kernel_rfl) (by kernel_rfl) (by kernel_rfl) (fun _ _ _ h => h) (Or.inl ⟨by rfl, ?_⟩) (by assumption) ?_
             rotate_left
             focus (intro w' hSw; have a0 := at_below hSw S0 A0; have a1 := at_below hSw S0 A1; have p0 := at_below hSw hg2 P0; have p1 := at_below hSw hg2 P1; clear hSw; go_simp; try with_reducible rfl)
             try simp only [Act.put, p1, p2, p3, p4, p5, p6]
             refine tk (i := 2) (v := ?_) rfl (by kernel_rfl) (by kernel_rfl) (by kernel_rfl) (fun _ _ _ h => h) (Or.inl ⟨by rfl, ?_⟩) (by assumption) ?_
             rotate_left
             focus (intro w' hSw; have a0 := at_below hSw S0 A0; have a1 := at_below hSw S0 A1; have p0 := at_below hSw hg2 P0; have p1 := at_below hSw hg2 P1; clear hSw; go_simp; try with_reducible rfl)
             try simp only [Act.put, p1, p2, p3, p4, p5, p6]
             refine tk (i := 3) (v := ?_) rfl (by kernel_rfl) (by kernel_rfl) (by kernel_rfl) (fun _ _ _ h => h) (Or.inl ⟨by rfl, ?_⟩) (by assumption) ?_
             rotate_left
             focus (intro w' hSw; have a0 := at_below hSw S0 A0; have a1 := at_below hSw S0 A1; have p0 := at_below hSw hg2 P0; have p1 := at_below hSw hg2 P1; clear hSw; go_simp; try with_reducible rfl)
             try simp only [Act.put, p1, p2, p3, p4, p5, p6]
             refine tk (i := 4) (v := ?_) rfl (by kernel_rfl) (by kernel_rfl) (by kernel_rfl) (fun _ _ _ h => h) (Or.inl ⟨by rfl, ?_⟩) (by assumption) ?_
             rotate_left
             focus (intro w' hSw; have a0 := at_below hSw S0 A0; have a1 := at_below hSw S0 A1; have p0 := at_below hSw hg2 P0; have p1 := at_below hSw hg2 P1; clear hSw; go_simp; try with_reducible rfl)
             try simp only [Act.put, p1, p2, p3, p4, p5, p6]
             refine tk (i := 5) (v := ?_) rfl (by kernel_rfl) (by kernel_rfl) (by kernel_rfl) (fun _ _ _ h => h) (Or.inl ⟨by rfl, ?_⟩) (by assumption) ?_
             rotate_left
             focus (intro w' hSw; have a0 := at_below hSw S0 A0; have a1 := at_below hSw S0 A1; have p0 := at_below hSw hg2 P0; have p1 := at_below hSw hg2 P1; clear hSw; go_simp; try with_reducible rfl)
             try simp only [Act.put, p1, p2, p3, p4, p5, p6]
             refine tk (i := 6) (v := ?_) rfl (by kernel_rfl) (by kernel_rfl) (by kernel_rfl) (fun _ _ _ h => h) (Or.inl ⟨by rfl, ?_⟩) (by assumption) ?_
             rotate_left
             focus (intro w' hSw; have a0 := at_below hSw S0 A0; have a1 := at_below hSw S0 A1; have p0 := at_below hSw hg2 P0; have p1 := at_below hSw hg2 P1; clear hSw; go_simp; try with_reducible rfl)
             try simp only [Act.put, p1, p2, p3, p4, p5, p6]
             refine tk (i := 7) (v := ?_) rfl (by kernel_rfl) (by kernel_rfl) (by kernel_rfl) (fun _ _ _ h => h) (Or.inl ⟨by rfl, ?_⟩) (by assumption) ?_
             rotate_left
             focus (intro w' hSw; have a0 := at_below hSw S0 A0; have a1 := at_below hSw S0 A1; have p0 := at_below hSw hg2 P0; have p1 := at_below hSw hg2 P1; clear hSw; go_simp; try with_reducible rfl)
             try simp only [Act.put, p1, p2, p3, p4, p5, p6]
             refine tk (i := 8) (v := ?_) rfl (by kernel_rfl) (by kernel_rfl) (by kernel_rfl) (fun _ _ _ h => h) (Or.inl ⟨by rfl, ?_⟩) (by assumption) ?_
             rotate_left
             focus (intro w' hSw; have a0 := at_below hSw S0 A0; have a1 := at_below hSw S0 A1; have p0 := at_below hSw hg2 P0; have p1 := at_below hSw hg2 P1; clear hSw; go_simp; try with_reducible rfl)
             try simp only [Act.put, p1, p2, p3, p4, p5, p6]
             refine rd (rs := [9]) (by kernel_rfl) (by simp) ?_
             refine AllReadyH.cons rfl (fun K hK => ?_) AllReadyH.nil
             go_simp
             refine hK.out _ _ (HB1.out.alloc HB1.out.size _) (fun hHeld => ?_)
             clear hK K
             try simp only [Act.put, p1, p2, p3, p4, p5, p6]
             refine rd (rs := [10]) (by kernel_rfl) (by simp) ?_
             refine AllReadyH.cons rfl (fun K hK => ?_) AllReadyH.nil
             refine step_append_lies _ (by rfl) (.tmp 63) (.tmp 72) 104 (by rfl) w3.heap.size 44 i0 _ 4 32 Try.underlying104 hi hz0 hz1 hz2 rfl (by omega) _ _ _ (by rfl) (HO1.out.alloc _) ⟨_, 0, none⟩ 1 1 [.int .i64 a, .int .i64 b, .int .i64 lo, .int .i64 (-2)] (by rfl) (by rfl) (World.news_of_block (heap_alloc_new _ _)) (by intro u hu; simp at hu; rcases hu with rfl | rfl | rfl | rfl <;> rfl) (by omega) (by unfold maxLen; omega) (by omega) (by have := HB1.out.size; simp; omega) _ rfl ?_
             intro g1 cap1 w1 hown1 hgrow1 hat1 hlt1
             have HB2 := Lib.hid (below_grown (HB1.out.alloc HB1.out.size _) hgrow1 (fun k hk => (HO1.out.lt k hk).1) (by have := HB1.out.size; simp; omega))
             have HO2 := Lib.hid hown1
             clear hown1 hgrow1 hat1
             refine hK.out _ _ HB2.out (fun hHeld => ?_)
             clear hK K
             try simp only [Act.put, p1, p2, p3, p4, p5, p6]
             refine tk (i := 11) (v := ?_) rfl (by kernel_rfl) (by kernel_rfl) (by kernel_rfl) (fun _ _ _ h => h) (Or.inl ⟨by rfl, ?_⟩) (by assumption) ?_
             rotate_left
             focus (intro w' hSw; have a0 := at_below hSw S0 A0; have a1 := at_below hSw S0 A1; have p0 := at_below hSw hg2 P0; have p1 := at_below hSw hg2 P1; clear hSw; go_simp; try with_reducible rfl)
             try simp only [Act.put, p1, p2, p3, p4, p5, p6]
             refine wpAnyH_done (by kernel_rfl) ?_ _
             have a1 := at_below HB2.out S0 A1
             go_wp2_with (at_builtin; refine wpList_append_lies _ rfl (.tmp 77) (.tmp 83) 104 rfl w3.heap.size 44 i0 _ 4 32 Try.underlying104 hi hz0 hz1 hz2 rfl (by omega) _ _ _ rfl (HO2.out.alloc _) ⟨_, 0, none⟩ 1 1 [.int .i64 (-9223372036854775807), .int .i64 b, .int .i64 (-1), .int .i64 (-1)] rfl rfl (World.news_of_block (heap_alloc_new _ _)) (by intro u hu; simp at hu; rcases hu with rfl | rfl | rfl | rfl <;> rfl) (by omega) (by unfold maxLen; omega) (by omega) (by have := HB2.out.size; simp; omega) _ rfl ?_)
             intro g3 cap3 w3 hown3 hgrow3 hat3 hlt3
             have HB3 := Lib.hid (below_grown (HB2.out.alloc HB2.out.size _) hgrow3 (fun k hk => (HO2.out.lt k hk).1) (by have := HB2.out.size; simp; omega))
             have HO3 := Lib.hid hown3
             clear hown3 hgrow3 hat3 a1
             go_wp2_with fail
             go_roundw
             case rel => exact ⟨m + 1, by go_num, by omega, HB3.out, by rw [HP2.out, List.length_append, HN.out, flat4_append]; have := HO3.out; first | exact this | (rw [List.append_assoc] at this; exact this)⟩
             case measure => simp [intOf]; omega
           · have HP2 := Lib.hid (hstep.out.trans (by rw [hpo.out, if_pos hB1, if_neg hB2]; rfl : _ = pairsTo a b true p m ++ [⟨a, b, lo, -2⟩]))
             clear hpo hstep
             go_upto_region 10 with fail
             refine wp_region_held_drew (S := fun w' => Below w3.heap.size w3 w') (by kernel_rfl) HB.out.drew (fun hHeld => ?_)
             have HO1 := Lib.hid (show wr.drew.ownsRow w3.heap.size 44 4 _ _ _ from HO.out)
             have HB1 := Lib.hid HB.out.drew
             clear HO HB a0 a1 x4 p0 p1
             generalize wr.drew = V at *
             refine tk (i := 0) (v := ?_) rfl (by kernel_rfl) (by kernel_rfl) (by kernel_rfl) (fun _ _ _ h => h) (Or.inl ⟨by rfl, ?_⟩) (by assumption) ?_
             rotate_left
             focus (intro w' hSw; have a0 := at_below hSw S0 A0; have a1 := at_below hSw S0 A1; have p0 := at_below hSw hg2 P0; have p1 := at_below hSw hg2 P1; clear hSw; go_simp; try with_reducible rfl)
             try simp only [Act.put, p1, p2, p3, p4, p5, p6]
             refine tk (i := 1) (v := ?_) rfl (by kernel_rfl) (by kernel_rfl) (by kernel_rfl) (fun _ _ _ h => h) (Or.inl ⟨by rfl, ?_⟩) (by assumption) ?_
             rotate_left
             focus (intro w' hSw; have a0 := at_below hSw S0 A0; have a1 := at_below hSw S0 A1; have p0 := at_below hSw hg2 P0; have p1 := at_below hSw hg2 P1; clear hSw; go_simp; try with_reducible rfl)
             try simp only [Act.put, p1, p2, p3, p4, p5, p6]
             refine tk (i := 2) (v := ?_) rfl (by kernel_rfl) (by kernel_rfl) (by kernel_rfl) (fun _ _ _ h => h) (Or.inl ⟨by rfl, ?_⟩) (by assumption) ?_
             rotate_left
             focus (intro w' hSw; have a0 := at_below hSw S0 A0; have a1 := at_below hSw S0 A1; have p0 := at_below hSw hg2 P0; have p1 := at_below hSw hg2 P1; clear hSw; go_simp; try with_reducible rfl)
             try simp only [Act.put, p1, p2, p3, p4, p5, p6]
             refine tk (i := 3) (v := ?_) rfl (by kernel_rfl) (by kernel_rfl) (by kernel_rfl) (fun _ _ _ h => h) (Or.inl ⟨by rfl, ?_⟩) (by assumption) ?_
             rotate_left
             focus (intro w' hSw; have a0 := at_below hSw S0 A0; have a1 := at_below hSw S0 A1; have p0 := at_below hSw hg2 P0; have p1 := at_below hSw hg2 P1; clear hSw; go_simp; try with_reducible rfl)
             try simp only [Act.put, p1, p2, p3, p4, p5, p6]
             refine tk (i := 4) (v := ?_) rfl (by kernel_rfl) (by kernel_rfl) (by kernel_rfl) (fun _ _ _ h => h) (Or.inl ⟨by rfl, ?_⟩) (by assumption) ?_
             rotate_left
             focus (intro w' hSw; have a0 := at_below hSw S0 A0; have a1 := at_below hSw S0 A1; have p0 := at_below hSw hg2 P0; have p1 := at_below hSw hg2 P1; clear hSw; go_simp; try with_reducible rfl)
             try simp only [Act.put, p1, p2, p3, p4, p5, p6]
             refine tk (i := 5) (v := ?_) rfl (by kernel_rfl) (by kernel_rfl) (by kernel_rfl) (fun _ _ _ h => h) (Or.inl ⟨by rfl, ?_⟩) (by assumption) ?_
             rotate_left
             focus (intro w' hSw; have a0 := at_below hSw S0 A0; have a1 := at_below hSw S0 A1; have p0 := at_below hSw hg2 P0; have p1 := at_below hSw hg2 P1; clear hSw; go_simp; try with_reducible rfl)
             try simp only [Act.put, p1, p2, p3, p4, p5, p6]
             refine tk (i := 6) (v := ?_) rfl (by kernel_rfl) (by kernel_rfl) (by kernel_rfl) (fun _ _ _ h => h) (Or.inl ⟨by rfl, ?_⟩) (by assumption) ?_
             rotate_left
             focus (intro w' hSw; have a0 := at_below hSw S0 A0; have a1 := at_below hSw S0 A1; have p0 := at_below hSw hg2 P0; have p1 := at_below hSw hg2 P1; clear hSw; go_simp; try with_reducible rfl)
             try simp only [Act.put, p1, p2, p3, p4, p5, p6]
             refine tk (i := 7) (v := ?_) rfl (by kernel_rfl) (by kernel_rfl) (by kernel_rfl) (fun _ _ _ h => h) (Or.inl ⟨by rfl, ?_⟩) (by assumption) ?_
             rotate_left
             focus (intro w' hSw; have a0 := at_below hSw S0 A0; have a1 := at_below hSw S0 A1; have p0 := at_below hSw hg2 P0; have p1 := at_below hSw hg2 P1; clear hSw; go_simp; try with_reducible rfl)
             try simp only [Act.put, p1, p2, p3, p4, p5, p6]
             refine tk (i := 8) (v := ?_) rfl (by kernel_rfl) (by kernel_rfl) (by kernel_rfl) (fun _ _ _ h => h) (Or.inl ⟨by rfl, ?_⟩) (by assumption) ?_
             rotate_left
             focus (intro w' hSw; have a0 := at_below hSw S0 A0; have a1 := at_below hSw S0 A1; have p0 := at_below hSw hg2 P0; have p1 := at_below hSw hg2 P1; clear hSw; go_simp; try with_reducible rfl)
             try simp only [Act.put, p1, p2, p3, p4, p5, p6]
             refine rd (rs := [9]) (by kernel_rfl) (by simp) ?_
             refine AllReadyH.cons rfl (fun K hK => ?_) AllReadyH.nil
             go_simp
             refine hK.out _ _ (HB1.out.alloc HB1.out.size _) (fun hHeld => ?_)
             clear hK K
             try simp only [Act.put, p1, p2, p3, p4, p5, p6]
             refine rd (rs := [10]) (by kernel_rfl) (by simp) ?_
             refine AllReadyH.cons rfl (fun K hK => ?_) AllReadyH.nil
             refine step_append_lies _ (by rfl) (.tmp 63) (.tmp 72) 104 (by rfl) w3.heap.size 44 i0 _ 4 32 Try.underlying104 hi hz0 hz1 hz2 rfl (by omega) _ _ _ (by rfl) (HO1.out.alloc _) ⟨_, 0, none⟩ 1 1 [.int .i64 a, .int .i64 b, .int .i64 lo, .int .i64 (-2)] (by rfl) (by rfl) (World.news_of_block (heap_alloc_new _ _)) (by intro u hu; simp at hu; rcases hu with rfl | rfl | rfl | rfl <;> rfl) (by omega) (by unfold maxLen; omega) (by omega) (by have := HB1.out.size; simp; omega) _ rfl ?_
             intro g1 cap1 w1 hown1 hgrow1 hat1 hlt1
             have HB2 := Lib.hid (below_grown (HB1.out.alloc HB1.out.size _) hgrow1 (fun k hk => (HO1.out.lt k hk).1) (by have := HB1.out.size; simp; omega))
             have HO2 := Lib.hid hown1
             clear hown1 hgrow1 hat1
             refine hK.out _ _ HB2.out (fun hHeld => ?_)
             clear hK K
             try simp only [Act.put, p1, p2, p3, p4, p5, p6]
             refine tk (i := 11) (v := ?_) rfl (by kernel_rfl) (by kernel_rfl) (by kernel_rfl) (fun _ _ _ h => h) (Or.inl ⟨by rfl, ?_⟩) (by assumption) ?_
             rotate_left
             focus (intro w' hSw; have a0 := at_below hSw S0 A0; have a1 := at_below hSw S0 A1; have p0 := at_below hSw hg2 P0; have p1 := at_below hSw hg2 P1; clear hSw; go_simp; try with_reducible rfl)
             try simp only [Act.put, p1, p2, p3, p4, p5, p6]
             refine wpAnyH_done (by kernel_rfl) ?_ _
             have a1 := at_below HB2.out S0 A1
             go_wp2_with fail
             go_roundw
             case rel => exact ⟨m + 1, by go_num, by omega, HB2.out, by rw [HP2.out, List.length_append, HN.out, flat4_append]; exact HO2.out⟩
             case measure => simp [intOf]; omega
         · by_cases hB2 : -9223372036854775808 < b
           · have HP2 := Lib.hid (hstep.out.trans (by rw [hpo.out, if_neg hB1, if_pos hB2]; rfl : _ = pairsTo a b true p m ++ [⟨-9223372036854775807, b, -1, -1⟩]))
             clear hpo hstep
             go_wp2_with (at_builtin; refine wpList_append_lies _ rfl (.tmp 77) (.tmp 83) 104 rfl w3.heap.size 44 i0 _ 4 32 Try.underlying104 hi hz0 hz1 hz2 rfl (by omega) _ _ _ rfl (HO.out.alloc _) ⟨_, 0, none⟩ 1 1 [.int .i64 (-9223372036854775807), .int .i64 b, .int .i64 (-1), .int .i64 (-1)] rfl rfl (World.news_of_block (heap_alloc_new _ _)) (by intro u hu; simp at hu; rcases hu with rfl | rfl | rfl | rfl <;> rfl) (by omega) (by unfold maxLen; omega) (by omega) (by have := HB.out.size; simp; omega) _ rfl ?_)
             intro g3 cap3 w3 hown3 hgrow3 hat3 hlt3
             have HB3 := Lib.hid (below_grown (HB.out.alloc HB.out.size _) hgrow3 (fun k hk => (HO.out.lt k hk).1) (by have := HB.out.size; simp; omega))
             have HO3 := Lib.hid hown3
             clear hown3 hgrow3 hat3 a1
             go_wp2_with fail
             go_roundw
             case rel => exact ⟨m + 1, by go_num, by omega, HB3.out, by rw [HP2.out, List.length_append, HN.out, flat4_append]; exact HO3.out⟩
             case measure => simp [intOf]; omega
           · have HP2 := Lib.hid (hstep.out.trans (by rw [hpo.out, if_neg hB1, if_neg hB2]; rfl : _ = pairsTo a b true p m ++ []))
             clear hpo hstep
             go_wp2_with fail
             go_roundw
             case rel => exact ⟨m + 1, by go_num, by omega, HB.out, by rw [HP2.out, List.append_nil, HN.out]; exact HO.out⟩
             case measure => simp [intOf]; omega
     · obtain rfl : m = p.length := by omega
       have hqq := hq.out
       rw [hqq] at HN HO
       have HQQ := Lib.hid hqq
       have hn4 : n ≤ 4 := by omega
       clear hq hqq hlen hlt hm
       have ID := J3.out.upto rfl HB.out
       have JD := Lib.hid ID
       rcases hE.out with ⟨rfl, rfl, rfl, rfl⟩ | ⟨hne, rfl, hop, hR⟩ | ⟨hne, rfl, hop, hx, hy, hC⟩
       · obtain rfl : n = 0 := by rw [← HN.out]; rfl
         obtain ⟨a0, a1, r0, r1, r2, r3, r4, x0, x1, x2, x3, x4, fr0, fr1, fr2, fr3, fr4, fx0, fx1, fx2, s0, s2, nr, sx, bl⟩ := ID
         clear J3 HR HO HN HB HQ hE hP
         go_wp2
         refine bodyPost_ret (v := .agg #[.int .i64 0, .int .i64 0, .bool false, .bool T, .bool U]) (by simp [results, Try.results38, go_sem, *]) rfl ⟨rfl, (bl.setCell (by simp; omega) _).setCell (by simp; omega) _⟩
       · have hpl : ¬ (p.length = 0 ∧ op0 = none) := fun h => hne (by rw [← HQQ.out, h.1]; rfl)
         have hn : ((n : Int) == 0) = false := by
           have h0 := HN.out
           have : n ≠ 0 := fun h => hne (List.length_eq_zero_iff.1 (h0.trans h))
           simpa using this
         obtain ⟨g, rfl, hg1, hg2, hcell⟩ := HR.out.resolve_left hpl
         have hgx : nx < g := by omega
         obtain ⟨a0, a1, r0, r1, r2, r3, r4, x0, x1, x2, x3, x4, fr0, fr1, fr2, fr3, fr4, fx0, fx1, fx2, s0, s2, nr, sx, bl⟩ := ID
         clear J3 HR HO HN HQ hE hP
         go_wp2_with fail
         refine (hR g capp _ ?h1 ?h2 hcap).out.mono ?_
         case h1 => have := HB.out.size; simp [World.setCell]; omega
         case h2 =>
           intro i v hv
           have := at_below HB.out hg2 (hcell i v hv)
           have hnx : ¬ nx = g := by omega
           go_simp
         clear a0 a1 r0 r1 r2 r3 r4 x0 x1 x2 x3 x4 fr0 fr1 fr2 fr3 fr4 fx0 fx1 fx2 s0 s2 nr sx bl hcell HB
         rintro e w5 ⟨rfl, hB5⟩
         obtain ⟨a0, a1, r0, r1, r2, r3, r4, x0, x1, x2, x3, x4, fr0, fr1, fr2, fr3, fr4, fx0, fx1, fx2, s0, s2, nr, sx, bl⟩ := JD.out.some.later hB5
         clear hB5 JD
         go_wp2
         refine bodyPost_ret (v := .agg #[.int .i64 x, .int .i64 y, .bool true, .bool T, .bool U]) (by simp [results, Try.results38, go_sem, *]) rfl ⟨rfl, (((((((bl.setCell (by simp; omega) _).setCell (by simp; omega) _).setCell (by simp; omega) _).setCell (by simp; omega) _).setCell (by simp; omega) _).setCell (by simp; omega) _).setCell (by simp; omega) _)⟩
       · have hn : ((n : Int) == 0) = false := by
           have h0 := HN.out
           have : n ≠ 0 := fun h => hne (List.length_eq_zero_iff.1 (h0.trans h))
           simpa using this
         have hnp : ¬ (n = 0 ∧ oq = none) := fun h => hne (List.length_eq_zero_iff.1 (HN.out.trans h.1))
         obtain ⟨gq, rfl, hq1, hq2, hcell⟩ := HQ.out.resolve_left hnp
         have hnx : ¬ nx = gq := by have := J3.out.sx; omega
         have HC := Lib.hid hcell
         clear hcell
         obtain ⟨a0, a1, r0, r1, r2, r3, r4, x0, x1, x2, x3, x4, fr0, fr1, fr2, fr3, fr4, fx0, fx1, fx2, s0, s2, nr, sx, bl⟩ := ID
         clear J3 HR HO HQ hE hP
         have HXY := Lib.hid (And.intro hx hy)
         clear hx hy
         have n0 : ¬ nx = w.heap.size := by omega
         go_wp2_with fail
         have JW := Lib.hid JD.out.some
         have HQC : Hid (∀ i v, (flat4 q)[i]? = some v → (wr.setCell ⟨nx, 2, none⟩ (.bool true)).cell? ⟨gq, i, none⟩ = some v) := Lib.hid fun i v hv => by
           have := HC.out i v (by rw [HQQ.out]; exact hv)
           go_simp
         have hsz : (wr.setCell ⟨nx, 2, none⟩ (.bool true)).heap.size = wr.heap.size := by simp [World.setCell]
         have HS : Hid (SpanIn wr.heap.size ((wr.setCell ⟨nx, 2, none⟩ (.bool true)).alloc (.cells #[.int .i64 0, .int .i64 0, .bool false] 69)) 0 0) := Lib.hid (hsz ▸ spanIn (wr.setCell ⟨nx, 2, none⟩ (.bool true)) 0 0)
         have hgW : gq < wr.heap.size := hq2
         clear HC JD HB a0 a1 r0 r1 r2 r3 r4 x0 x1 x2 x3 x4 fr0 fr1 fr2 fr3 fr4 fx0 fx1 fx2 s0 s2 nr sx bl
         clear HQQ
         generalize wr.setCell ⟨nx, 2, none⟩ (.bool true) = W1 at *
         generalize wr.heap.size = B1 at *
         go_loopw [14] (fun i wy => ∃ m : Nat, i = .int .i64 m ∧ m ≤ n ∧ Below B1 W1 wy ∧ SpanIn B1 wy (hullLo (q.take m)) (hullHi (q.take m))) (fun i _ => (n - intOf i).toNat)
         case atStart => exact ⟨0, rfl, Nat.zero_le _, (Below.refl _ _).alloc (by omega) _, HS.out⟩
         case round =>
           obtain ⟨m, rfl, hm, hb, hsp⟩ := hrel
           have HB := Lib.hid hb
           have HS1 := Lib.hid hsp
           clear hb hsp HS
           by_cases hlt : m < n
           · have hlq : m < q.length := by rw [HN.out]; exact hlt
             obtain ⟨e0, e1, e2, e3⟩ := flat4_at q m hlq
             have Q0 := HQC.out _ _ e0
             have Q1 := HQC.out _ _ e1
             have Q2 := HQC.out _ _ e2
             have Q3 := HQC.out _ _ e3
             clear e0 e1 e2 e3
             have hCm := fun wx => hC (q[m]'hlq) (List.getElem_mem hlq) wx
             obtain ⟨hl, hh⟩ := hull_next q m hlq
             have hLH := (q[m]'hlq).le
             obtain ⟨Bm, u0, v0, hbm, A1, A2⟩ := add_two m _ _ _ _ _ _ hl hh hLH
             clear hl hh hLH
             generalize (q[m]'hlq).lo = L at *
             generalize (q[m]'hlq).hi = H at *
             generalize (q[m]'hlq).a = pa at *
             generalize (q[m]'hlq).b = pb at *
             generalize (q[m]'hlq).c = pc at *
             generalize (q[m]'hlq).d = pd at *
             generalize hullLo (q.take m) = l0 at *
             generalize hullHi (q.take m) = h0 at *
             generalize hL1 : hullLo (q.take (m + 1)) = l1 at *
             generalize hH1 : hullHi (q.take (m + 1)) = h1 at *
             have HL := Lib.hid (And.intro hL1 hH1)
             clear hL1 hH1
             have m0 : (0 : Int) ≤ (m : Int) := by omega
             have m1 : (m : Int) < (n : Int) := by omega
             have hlt' := Lib.hid hlt
             have HA := Lib.hid A1
             have HA' := Lib.hid A2
             have hbm' := Lib.hid hbm
             clear A1 A2 hbm
             go_upto_region 23 with fail
             go_cut [15] (fun s15 wx => ∃ nt, s15 = .pointer (some ⟨nt, 0, none⟩) ∧ B1 < nt ∧ Below B1 W1 wx ∧ SpanIn B1 wx l0 h0 ∧ SpanIn nt wx L H)
             case first =>
               refine wp_region_held_drew (S := fun w' => Below B1 W1 w') (by kernel_rfl) HB.out.drew (fun hHeld => ?_)
               have HB1 := Lib.hid HB.out.drew
               have HS2 := Lib.hid (HS1.out.later (Below.refl _ _).drew)
               clear HB HS1
               generalize wr.drew = V at *
               refine tk (i := 0) (v := ?_) rfl (by kernel_rfl) (by kernel_rfl) (by kernel_rfl) (fun _ _ _ h => h) (Or.inl ⟨by rfl, ?_⟩) (by assumption) ?_
               rotate_left
               focus (intro w' hSw; have c0 := at_below hSw hgW Q0; have c1 := at_below hSw hgW Q1; have c2 := at_below hSw hgW Q2; have c3 := at_below hSw hgW Q3; clear hSw; go_simp; try with_reducible rfl)
               try simp only [Act.put, p1, p2, p3, p4, p5, p6]
               refine tk (i := 1) (v := ?_) rfl (by kernel_rfl) (by kernel_rfl) (by kernel_rfl) (fun _ _ _ h => h) (Or.inl ⟨by rfl, ?_⟩) (by assumption) ?_
               rotate_left
               focus (intro w' hSw; have c0 := at_below hSw hgW Q0; have c1 := at_below hSw hgW Q1; have c2 := at_below hSw hgW Q2; have c3 := at_below hSw hgW Q3; clear hSw; go_simp; try with_reducible rfl)
               try simp only [Act.put, p1, p2, p3, p4, p5, p6]
               refine tk (i := 2) (v := ?_) rfl (by kernel_rfl) (by kernel_rfl) (by kernel_rfl) (fun _ _ _ h => h) (Or.inl ⟨by rfl, ?_⟩) (by assumption) ?_
               rotate_left
               focus (intro w' hSw; have c0 := at_below hSw hgW Q0; have c1 := at_below hSw hgW Q1; have c2 := at_below hSw hgW Q2; have c3 := at_below hSw hgW Q3; clear hSw; go_simp; try with_reducible rfl)
               try simp only [Act.put, p1, p2, p3, p4, p5, p6]
               refine tk (i := 3) (v := ?_) rfl (by kernel_rfl) (by kernel_rfl) (by kernel_rfl) (fun _ _ _ h => h) (Or.inl ⟨by rfl, ?_⟩) (by assumption) ?_
               rotate_left
               focus (intro w' hSw; have c0 := at_below hSw hgW Q0; have c1 := at_below hSw hgW Q1; have c2 := at_below hSw hgW Q2; have c3 := at_below hSw hgW Q3; clear hSw; go_simp; try with_reducible rfl)
               try simp only [Act.put, p1, p2, p3, p4, p5, p6]
               refine tk (i := 4) (v := ?_) rfl (by kernel_rfl) (by kernel_rfl) (by kernel_rfl) (fun _ _ _ h => h) (Or.inl ⟨by rfl, ?_⟩) (by assumption) ?_
               rotate_left
               focus (intro w' hSw; have c0 := at_below hSw hgW Q0; have c1 := at_below hSw hgW Q1; have c2 := at_below hSw hgW Q2; have c3 := at_below hSw hgW Q3; clear hSw; go_simp; try with_reducible rfl)
               try simp only [Act.put, p1, p2, p3, p4, p5, p6]
               refine tk (i := 5) (v := ?_) rfl (by kernel_rfl) (by kernel_rfl) (by kernel_rfl) (fun _ _ _ h => h) (Or.inl ⟨by rfl, ?_⟩) (by assumption) ?_
               rotate_left
               focus (intro w' hSw; have c0 := at_below hSw hgW Q0; have c1 := at_below hSw hgW Q1; have c2 := at_below hSw hgW Q2; have c3 := at_below hSw hgW Q3; clear hSw; go_simp; try with_reducible rfl)
               try simp only [Act.put, p1, p2, p3, p4, p5, p6]
               refine tk (i := 6) (v := ?_) rfl (by kernel_rfl) (by kernel_rfl) (by kernel_rfl) (fun _ _ _ h => h) (Or.inl ⟨by rfl, ?_⟩) (by assumption) ?_
               rotate_left
               focus (intro w' hSw; have c0 := at_below hSw hgW Q0; have c1 := at_below hSw hgW Q1; have c2 := at_below hSw hgW Q2; have c3 := at_below hSw hgW Q3; clear hSw; go_simp; try with_reducible rfl)
               try simp only [Act.put, p1, p2, p3, p4, p5, p6]
               refine tk (i := 7) (v := ?_) rfl (by kernel_rfl) (by kernel_rfl) (by kernel_rfl) (fun _ _ _ h => h) (Or.inl ⟨by rfl, ?_⟩) (by assumption) ?_
               rotate_left
               focus (intro w' hSw; have c0 := at_below hSw hgW Q0; have c1 := at_below hSw hgW Q1; have c2 := at_below hSw hgW Q2; have c3 := at_below hSw hgW Q3; clear hSw; go_simp; try with_reducible rfl)
               try simp only [Act.put, p1, p2, p3, p4, p5, p6]
               refine tk (i := 8) (v := ?_) rfl (by kernel_rfl) (by kernel_rfl) (by kernel_rfl) (fun _ _ _ h => h) (Or.inl ⟨by rfl, ?_⟩) (by assumption) ?_
               rotate_left
               focus (intro w' hSw; have c0 := at_below hSw hgW Q0; have c1 := at_below hSw hgW Q1; have c2 := at_below hSw hgW Q2; have c3 := at_below hSw hgW Q3; clear hSw; go_simp; try with_reducible rfl)
               try simp only [Act.put, p1, p2, p3, p4, p5, p6]
               refine tk (i := 9) (v := ?_) rfl (by kernel_rfl) (by kernel_rfl) (by kernel_rfl) (fun _ _ _ h => h) (Or.inl ⟨by rfl, ?_⟩) (by assumption) ?_
               rotate_left
               focus (intro w' hSw; have c0 := at_below hSw hgW Q0; have c1 := at_below hSw hgW Q1; have c2 := at_below hSw hgW Q2; have c3 := at_below hSw hgW Q3; clear hSw; go_simp; try with_reducible rfl)
               try simp only [Act.put, p1, p2, p3, p4, p5, p6]
               refine rd (rs := [10, 11]) (by kernel_rfl) (by simp) ?_
               refine AllReadyH.cons rfl (fun K hK => ?_) (AllReadyH.cons rfl (fun K hK => ?_) AllReadyH.nil)
               · go_simp
                 go_at_call 36
                 refine (hCm _).out.mono ?_
                 rintro eq w4 ⟨rfl, hB4⟩
                 have HB2 := Lib.hid (HB1.out.trans (hB4.mono (hsz ▸ HB1.out.size)))
                 have HS3 := Lib.hid (HS2.out.later hB4)
                 clear hB4 HB1 HS2
                 (try go_simp)
                 refine hK.out _ _ HB2.out (fun hHeld => ?_)
                 clear hK K
                 try simp only [Act.put, p1, p2, p3, p4, p5, p6]
                 refine rd (rs := [11]) (by kernel_rfl) (by simp) ?_
                 refine AllReadyH.cons rfl (fun K hK => ?_) AllReadyH.nil
                 go_simp
                 refine hK.out _ _ (HB2.out.alloc (hsz ▸ HB2.out.size) _) (fun hHeld => ?_)
                 clear hK K
                 try simp only [Act.put, p1, p2, p3, p4, p5, p6]
                 refine rd (rs := [12]) (by kernel_rfl) (by simp) ?_
                 refine AllReadyH.cons rfl (fun K hK => ?_) AllReadyH.nil
                 go_simp
                 refine hK.out _ _ (by first | exact HB2.out.alloc (hsz ▸ HB2.out.size) _ | exact ((HB2.out.alloc (hsz ▸ HB2.out.size) _).setCell (by have := HB2.out.size; simp; omega) _).setCell (by have := HB2.out.size; simp; omega) _) (fun hHeld => ?_)
                 clear hK K
                 try simp only [Act.put, p1, p2, p3, p4, p5, p6]
                 refine wpAnyH_done (by kernel_rfl) ?_ _
                 go_wp2_with fail
                 go_meet
                 exact ⟨w4.heap.size, rfl, by have := HS3.out.sz; omega, by first | exact HB2.out.alloc (hsz ▸ HB2.out.size) _ | exact ((HB2.out.alloc (hsz ▸ HB2.out.size) _).setCell (by have := HB2.out.size; simp; omega) _).setCell (by have := HB2.out.size; simp; omega) _, by first | exact HS3.out.later ((Below.refl _ _).alloc (Nat.le_refl _) _) | exact (HS3.out.later ((Below.refl _ _).alloc (Nat.le_refl _) _)).far (by have := HS3.out.sz; omega) _ _, by first | exact spanIn _ _ _ | exact (spanIn _ _ _).set _ _⟩
               · go_simp
                 refine hK.out _ _ (HB1.out.alloc (hsz ▸ HB1.out.size) _) (fun hHeld => ?_)
                 clear hK K
                 try simp only [Act.put, p1, p2, p3, p4, p5, p6]
                 refine rd (rs := [10]) (by kernel_rfl) (by simp) ?_
                 refine AllReadyH.cons rfl (fun K hK => ?_) AllReadyH.nil
                 go_simp
                 go_at_call 36
                 refine (hCm _).out.mono ?_
                 rintro eq w4 ⟨rfl, hB4⟩
                 have HB2 := Lib.hid ((HB1.out.alloc (hsz ▸ HB1.out.size) _).trans (hB4.mono (by have := HB1.out.size; simp; omega)))
                 have HS3 := Lib.hid ((HS2.out.later ((Below.refl _ _).alloc (Nat.le_refl _) _)).later hB4)
                 have HT3 := Lib.hid ((spanIn V 0 0).later hB4)
                 have hVs := HS2.out.sz
                 clear hB4 HB1 HS2
                 generalize V.heap.size = nt at *
                 (try go_simp)
                 refine hK.out _ _ HB2.out (fun hHeld => ?_)
                 clear hK K
                 try simp only [Act.put, p1, p2, p3, p4, p5, p6]
                 obtain ⟨c0, c1, c2, g0, g1, g2, sz⟩ := HT3.out
                 refine rd (rs := [12]) (by kernel_rfl) (by simp) ?_
                 refine AllReadyH.cons rfl (fun K hK => ?_) AllReadyH.nil
                 go_simp
                 refine hK.out _ _ ((HB2.out.setCell (by simp; omega) _).setCell (by simp; omega) _) (fun hHeld => ?_)
                 clear hK K
                 try simp only [Act.put, p1, p2, p3, p4, p5, p6]
                 refine wpAnyH_done (by kernel_rfl) ?_ _
                 clear c0 c1 c2 g0 g1 g2 sz
                 go_wp2_with fail
                 go_meet
                 exact ⟨nt, rfl, hVs, (HB2.out.setCell (by simp; omega) _).setCell (by simp; omega) _, HS3.out.far (by omega) _ _, HT3.out.set _ _⟩
             case rest =>
               obtain ⟨nt, rfl, hnt, hb2, hs2, ht2⟩ := hcut
               clear HS1 HB hCm Q0 Q1 Q2 Q3
               have HB := Lib.hid hb2
               have HS := Lib.hid hs2
               have HT := Lib.hid ht2
               clear hb2 hs2 ht2
               go_upto_region 24 with fail
               refine wp_region_held_drew (S := fun w' => SpanIn nt w' L H) (by kernel_rfl) (HT.out.later (Below.refl _ _).drew) (fun hHeld => ?_)
               have HB1 := Lib.hid HB.out.drew
               have HS1 := Lib.hid (HS.out.later (Below.refl _ _).drew)
               have HT1 := Lib.hid (HT.out.later (Below.refl _ _).drew)
               clear HB HS HT
               generalize wc.drew = V at *
               refine tk (i := 1) (v := ?_) rfl (by kernel_rfl) (by kernel_rfl) (by kernel_rfl) (fun _ _ _ h => h) (Or.inl ⟨by rfl, ?_⟩) (by assumption) ?_
               rotate_left
               focus (intro w' hSw; obtain ⟨d0, d1, d2, _, _, _, _⟩ := hSw; have hbm := hbm'.out; go_simp; try with_reducible rfl)
               try simp only [Act.put, p1, p2, p3, p4, p5, p6]
               refine tk (i := 2) (v := ?_) rfl (by kernel_rfl) (by kernel_rfl) (by kernel_rfl) (fun _ _ _ h => h) (Or.inl ⟨by rfl, ?_⟩) (by assumption) ?_
               rotate_left
               focus (intro w' hSw; obtain ⟨d0, d1, d2, _, _, _, _⟩ := hSw; have hbm := hbm'.out; go_simp; try with_reducible rfl)
               try simp only [Act.put, p1, p2, p3, p4, p5, p6]
               refine tk (i := 3) (v := ?_) rfl (by kernel_rfl) (by kernel_rfl) (by kernel_rfl) (fun _ _ _ h => h) (Or.inl ⟨by rfl, ?_⟩) (by assumption) ?_
               rotate_left
               focus (intro w' hSw; obtain ⟨d0, d1, d2, _, _, _, _⟩ := hSw; have hbm := hbm'.out; go_simp; try with_reducible rfl)
               try simp only [Act.put, p1, p2, p3, p4, p5, p6]
               refine tk (i := 4) (v := ?_) rfl (by kernel_rfl) (by kernel_rfl) (by kernel_rfl) (fun _ _ _ h => h) (Or.inl ⟨by rfl, ?_⟩) (by assumption) ?_
               rotate_left
               focus (intro w' hSw; obtain ⟨d0, d1, d2, _, _, _, _⟩ := hSw; have hbm := hbm'.out; go_simp; try with_reducible rfl)
               try simp only [Act.put, p1, p2, p3, p4, p5, p6]
               refine tk (i := 6) (v := ?_) rfl (by kernel_rfl) (by kernel_rfl) (by kernel_rfl) (fun _ _ _ h => h) (Or.inl ⟨by rfl, ?_⟩) (by assumption) ?_
               rotate_left
               focus (intro w' hSw; obtain ⟨d0, d1, d2, _, _, _, _⟩ := hSw; have hbm := hbm'.out; go_simp; try with_reducible rfl)
               try simp only [Act.put, p1, p2, p3, p4, p5, p6]
               refine tk (i := 7) (v := ?_) rfl (by kernel_rfl) (by kernel_rfl) (by kernel_rfl) (fun _ _ _ h => h) (Or.inl ⟨by rfl, ?_⟩) (by assumption) ?_
               rotate_left
               focus (intro w' hSw; obtain ⟨d0, d1, d2, _, _, _, _⟩ := hSw; have hbm := hbm'.out; go_simp; try with_reducible rfl)
               try simp only [Act.put, p1, p2, p3, p4, p5, p6]
               refine rd (rs := [0]) (by kernel_rfl) (by simp) ?_
               refine AllReadyH.cons rfl (fun K hK => ?_) AllReadyH.nil
               obtain ⟨c0, c1, c2, g0, g1, g2, sz⟩ := HS1.out
               go_simp
               clear c0 c1 c2 g0 g1 g2 sz
               refine hK.out _ _ HT1.out (fun hHeld => ?_)
               clear hK K
               try simp only [Act.put, p1, p2, p3, p4, p5, p6]
               refine rd (rs := [5]) (by kernel_rfl) (by simp) ?_
               refine AllReadyH.cons rfl (fun K hK => ?_) AllReadyH.nil
               go_simp
               go_at_call 57
               refine (HA.out _).out.mono ?_
               rintro eq w4 ⟨rfl, hB4⟩
               have HB2 := Lib.hid (HB1.out.trans (hB4.mono (hsz ▸ HB1.out.size)))
               have HS2 := Lib.hid (HS1.out.later hB4)
               have HT2 := Lib.hid (HT1.out.later hB4)
               clear hB4 HB1 HS1 HT1
               (try go_simp)
               refine hK.out _ _ HT2.out (fun hHeld => ?_)
               clear hK K
               try simp only [Act.put, p1, p2, p3, p4, p5, p6]
               refine rd (rs := [8]) (by kernel_rfl) (by simp) ?_
               refine AllReadyH.cons rfl (fun K hK => ?_) AllReadyH.nil
               go_simp
               go_at_call 57
               refine (HA'.out _).out.mono ?_
               rintro eq w5 ⟨rfl, hB5⟩
               have HB3 := Lib.hid (HB2.out.trans (hB5.mono (hsz ▸ HB2.out.size)))
               have HS3 := Lib.hid (HS2.out.later hB5)
               have HT3 := Lib.hid (HT2.out.later hB5)
               clear hB5 HB2 HS2 HT2
               (try go_simp)
               refine hK.out _ _ HT3.out (fun hHeld => ?_)
               clear hK K
               try simp only [Act.put, p1, p2, p3, p4, p5, p6]
               refine rd (rs := [9]) (by kernel_rfl) (by simp) ?_
               refine AllReadyH.cons rfl (fun K hK => ?_) AllReadyH.nil
               obtain ⟨c0, c1, c2, g0, g1, g2, sz⟩ := HS3.out
               go_simp
               have HBE := Lib.hid ((HB3.out.setCell (p := ⟨B1, 0, none⟩) (by simp) (.int .i64 l1)).setCell (p := ⟨B1, 1, none⟩) (by simp) (.int .i64 h1))
               have HSE := Lib.hid (HS3.out.set l1 h1)
               clear c0 c1 c2 g0 g1 g2 sz
               refine hK.out _ _ (HT3.out.far (by omega) _ _) (fun hHeld => ?_)
               clear hK K
               try simp only [Act.put, p1, p2, p3, p4, p5, p6]
               refine wpAnyH_done (by kernel_rfl) ?_ _
               go_wp2_with fail
               go_roundw
               case rel => exact ⟨m + 1, by go_num, hlt'.out, HBE.out, by rw [HL.out.1, HL.out.2]; exact HSE.out⟩
               case measure => have := hlt'.out; simp [intOf]; omega
           · obtain rfl : m = n := by omega
             have hx := HXY.out.1
             have hy := HXY.out.2
             have eq : q.take m = q := by rw [← HN.out]; exact List.take_length
             have HS2 := HS1.out
             rw [eq, ← hx, ← hy] at HS2
             clear hx hy eq HS1 HXY
             obtain ⟨c0, c1, c2, g0, g1, g2, sz⟩ := HS2
             obtain ⟨a0, a1, r0, r1, r2, r3, r4, x0, x1, x2, x3, x4, fr0, fr1, fr2, fr3, fr4, fx0, fx1, fx2, s0, s2, nr, sx, bl⟩ := JW.out.upto hsz.symm HB.out
             have hxs : ¬ nx = B1 := by have := JW.out.sx; omega
             clear HB JW HQC hC
             go_wp2
             refine bodyPost_ret (v := .agg #[.int .i64 x, .int .i64 y, .bool true, .bool T, .bool U]) (by simp [results, Try.results38, go_sem, *]) rfl ⟨rfl, (((((((bl.setCell (by simp; omega) _).setCell (by simp; omega) _).setCell (by simp; omega) _).setCell (by simp; omega) _).setCell (by simp; omega) _).setCell (by simp; omega) _).setCell (by simp; omega) _)⟩
end Go.Proofs.Ytgkhldbnljdeiaa
