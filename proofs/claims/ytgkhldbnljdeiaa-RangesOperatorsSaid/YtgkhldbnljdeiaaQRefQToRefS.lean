/- RefQ, RefR, RefS. -/
import Derived.Test.YtgkhldbnljdeiaaQRefP5
import Derived.Test.YtgkhldbnljdeiaaQRefJToRefK
set_option maxRecDepth 100000
set_option maxHeartbeats 1000000
set_option linter.unusedSimpArgs false
set_option linter.unusedVariables false
namespace Go.Proofs.Ytgkhldbnljdeiaa
open Go.RowKit
attribute [local go_sem] World.setCell_self
/-- One range that came in, and the result's range. -/
structure OneIn (w wx : World) (a b : Int) : Prop where
 a0 : wx.cell? ⟨w.heap.size, 0, none⟩ = some (.int .i64 a)
 a1 : wx.cell? ⟨w.heap.size, 1, none⟩ = some (.int .i64 b)
 r0 : wx.cell? ⟨w.heap.size + 1, 0, none⟩ = some (.int .i64 0)
 r1 : wx.cell? ⟨w.heap.size + 1, 1, none⟩ = some (.int .i64 0)
 f0 : wx.frozen? ⟨w.heap.size + 1, 0, none⟩ = false
 f1 : wx.frozen? ⟨w.heap.size + 1, 1, none⟩ = false
 s0 : w.heap.size < wx.heap.size
 s1 : w.heap.size + 1 < wx.heap.size
 bl : Below w.heap.size w wx
theorem OneIn.later {w wx wy : World} {a b : Int} (h : OneIn w wx a b) (hb : Below wx.heap.size wx wy) : OneIn w wy a b :=
 ⟨cell_later hb h.a0, cell_later hb h.a1, cell_later hb h.r0, cell_later hb h.r1, keepFr hb h.s1 h.f0, keepFr hb h.s1 h.f1, Nat.lt_of_lt_of_le h.s0 hb.size, Nat.lt_of_lt_of_le h.s1 hb.size, h.bl.trans (hb.mono (Nat.le_of_lt h.s0))⟩
theorem oneIn (w : World) (a b : Int) : OneIn w ((w.alloc (.cells #[.int .i64 a, .int .i64 b] 23)).alloc (.cells #[.int .i64 0, .int .i64 0] 23)) a b :=
 ⟨by go_simp, by go_simp, by go_simp, by go_simp, by go_simp, by go_simp, by (simp; try omega), by (simp; try omega), ((Below.refl _ _).alloc (Nat.le_refl _) _).alloc (by simp) _⟩
def RangeE (x y e : Int) : Value := .tuple #[.agg #[.int .i64 x, .int .i64 y], .int .i64 e]
theorem toSmall_no (a b : Int) (w : World) (h : (checkErr 1 a b != 0) = true) :
   Calls Try.prog 24 #[.agg #[.int .i64 a, .int .i64 b]] w fun e w' => e = .returned (.tuple #[.agg #[.int .i64 0, .int .i64 0], .int .i64 2]) ∧ Below w.heap.size w w' := by
 have C := fun w => Lib.hid (check_any 1 a b w)
 generalize checkErr 1 a b = ce at *
 go_enter Try.func24, Try.ntmps24
 go_wp2_with fail
 refine (C _).out.mono ?_
 rintro e w1 ⟨rfl, hB⟩
 have I := (oneIn w a b).later hB
 clear hB
 obtain ⟨a0, a1, r0, r1, f0, f1, s0, s1, bl⟩ := I
 go_wp2
 refine bodyPost_ret (v := .tuple #[.agg #[.int .i64 0, .int .i64 0], .int .i64 2]) (by simp [results, Try.results24, go_sem, *]) rfl ⟨rfl, bl⟩
theorem toSmall_yes (a b x y : Int) (w : World) (h : checkErr 1 a b = 0) (hB : ∀ w, Hid (Calls Try.prog 35 #[.agg #[.int .i64 a, .int .i64 b, .bool false], .int .i64 2] w fun e w' => e = .returned (.agg #[.int .i64 x, .int .i64 y]) ∧ Below w.heap.size w w')) :
   Calls Try.prog 24 #[.agg #[.int .i64 a, .int .i64 b]] w fun e w' => e = .returned (.tuple #[.agg #[.int .i64 x, .int .i64 y], .int .i64 0]) ∧ Below w.heap.size w w' := by
 have C := fun w => Lib.hid (check_any 1 a b w)
 rw [h] at C
 clear h
 go_enter Try.func24, Try.ntmps24
 go_wp2_with fail
 refine (C _).out.mono ?_
 rintro e w1 ⟨rfl, hB1⟩
 have J := Lib.hid ((oneIn w a b).later hB1)
 clear hB1
 obtain ⟨a0, a1, r0, r1, f0, f1, s0, s1, bl⟩ := J.out
 go_wp2_with fail
 refine (hB _).out.mono ?_
 clear a0 a1 r0 r1 f0 f1 s0 s1 bl
 rintro e w2 ⟨rfl, hB2⟩
 obtain ⟨a0, a1, r0, r1, f0, f1, s0, s1, bl⟩ := J.out.later hB2
 clear hB2
 go_wp2
 refine bodyPost_ret (v := .tuple #[.agg #[.int .i64 x, .int .i64 y], .int .i64 0]) (by simp [results, Try.results24, go_sem, *]) rfl ⟨rfl, (bl.setCell (by simp) _).setCell (by simp) _⟩
def toSmallS (a b : Int) : Int × Int × Int := if checkErr 1 a b = 0 then ((broughtS a b false 2).1, (broughtS a b false 2).2, 0) else (0, 0, 2)
theorem toSmall_any (a b : Int) (w : World) :
   Calls Try.prog 24 #[.agg #[.int .i64 a, .int .i64 b]] w fun e w' => e = .returned (.tuple #[.agg #[.int .i64 (toSmallS a b).1, .int .i64 (toSmallS a b).2.1], .int .i64 (toSmallS a b).2.2]) ∧ Below w.heap.size w w' := by
 unfold toSmallS
 by_cases h : checkErr 1 a b = 0
 · rw [if_pos h]; exact toSmall_yes a b _ _ w h (fun w => Lib.hid (brought_any a b 2 false w))
 · rw [if_neg h]; exact toSmall_no a b w (by simpa using h)
theorem unary_fits (op k a b : Int) (w : World) (hf : fits1 op k = false) :
   Calls Try.prog 20 #[.int .i64 op, .int .i64 k, .agg #[.int .i64 a, .int .i64 b]] w fun e w' => e = .returned (.tuple #[.agg #[.int .i64 0, .int .i64 0], .int .i64 2]) ∧ Below w.heap.size w w' := by
 have F := fun w => Lib.hid (fits1_any op k w)
 rw [hf] at F
 clear hf
 go_enter Try.func20, Try.ntmps20
 go_wp2_with fail
 refine (F _).out.mono ?_
 rintro e w1 ⟨rfl, rfl⟩
 go_wp2_with fail
 refine bodyPost_ret (v := .tuple #[.agg #[.int .i64 0, .int .i64 0], .int .i64 2]) (by simp [results, Try.results20, go_sem]) rfl ⟨rfl, ((Below.refl _ _).alloc (Nat.le_refl _) _).alloc (by simp) _⟩
theorem unary_check (op k a b : Int) (w : World) (hf : fits1 op k = true) (hc : (checkErr k a b != 0) = true) :
   Calls Try.prog 20 #[.int .i64 op, .int .i64 k, .agg #[.int .i64 a, .int .i64 b]] w fun e w' => e = .returned (.tuple #[.agg #[.int .i64 0, .int .i64 0], .int .i64 2]) ∧ Below w.heap.size w w' := by
 have F := fun w => Lib.hid (fits1_any op k w)
 rw [hf] at F
 clear hf
 have C := fun w => Lib.hid (check_any k a b w)
 generalize checkErr k a b = ce at *
 go_enter Try.func20, Try.ntmps20
 go_wp2_with fail
 refine (F _).out.mono ?_
 rintro e w1 ⟨rfl, rfl⟩
 go_wp2_with fail
 refine (C _).out.mono ?_
 rintro e w1 ⟨rfl, hB⟩
 obtain ⟨a0, a1, r0, r1, f0, f1, s0, s1, bl⟩ := (oneIn w a b).later hB
 clear hB
 go_wp2
 refine bodyPost_ret (v := .tuple #[.agg #[.int .i64 0, .int .i64 0], .int .i64 2]) (by simp [results, Try.results20, go_sem, *]) rfl ⟨rfl, bl⟩
theorem unary_neg (k a b lo hi x y : Int) (o : Bool) (w : World) (hf : fits1 1 k = true) (hc : checkErr k a b = 0)
   (hS : ∀ w, Hid (Calls Try.prog 36 #[.int .i64 5, .agg #[.int .i64 0, .int .i64 0], .agg #[.int .i64 a, .int .i64 b]] w fun e w' => e = .returned (.agg #[.int .i64 lo, .int .i64 hi, .bool o]) ∧ Below w.heap.size w w'))
   (hB : ∀ w, Hid (Calls Try.prog 35 #[.agg #[.int .i64 lo, .int .i64 hi, .bool o], .int .i64 k] w fun e w' => e = .returned (.agg #[.int .i64 x, .int .i64 y]) ∧ Below w.heap.size w w')) :
   Calls Try.prog 20 #[.int .i64 1, .int .i64 k, .agg #[.int .i64 a, .int .i64 b]] w fun e w' => e = .returned (.tuple #[.agg #[.int .i64 x, .int .i64 y], .int .i64 0]) ∧ Below w.heap.size w w' := by
 have F := fun w => Lib.hid (fits1_any 1 k w)
 rw [hf] at F
 have C := fun w => Lib.hid (check_any k a b w)
 rw [hc] at C
 clear hf hc
 go_enter Try.func20, Try.ntmps20
 go_wp2_with fail
 refine (F _).out.mono ?_
 rintro e w1 ⟨rfl, rfl⟩
 go_wp2_with fail
 refine (C _).out.mono ?_
 rintro e w1 ⟨rfl, hB1⟩
 have J := Lib.hid ((oneIn w a b).later hB1)
 clear hB1
 obtain ⟨a0, a1, r0, r1, f0, f1, s0, s1, bl⟩ := J.out
 go_wp2_with fail
 refine (hS _).out.mono ?_
 clear a0 a1 r0 r1 f0 f1 s0 s1 bl
 rintro e w2 ⟨rfl, hB2⟩
 have J2 := Lib.hid (J.out.later hB2)
 clear hB2 J
 obtain ⟨a0, a1, r0, r1, f0, f1, s0, s1, bl⟩ := J2.out
 go_wp2_with fail
 refine (hB _).out.mono ?_
 clear a0 a1 r0 r1 f0 f1 s0 s1 bl
 rintro e w3 ⟨rfl, hB3⟩
 obtain ⟨a0, a1, r0, r1, f0, f1, s0, s1, bl⟩ := J2.out.later hB3
 clear hB3
 go_wp2
 refine bodyPost_ret (v := .tuple #[.agg #[.int .i64 x, .int .i64 y], .int .i64 0]) (by simp [results, Try.results20, go_sem, *]) rfl ⟨rfl, (bl.setCell (by simp) _).setCell (by simp) _⟩
end Go.Proofs.Ytgkhldbnljdeiaa
namespace Go.Proofs.Ytgkhldbnljdeiaa
open Go.RowKit
attribute [local go_sem] World.setCell_self
theorem check_small {a b : Int} (h : checkErr 2 a b = 0) : 0 ≤ a ∧ a ≤ b ∧ b ≤ 255 := by
 unfold checkErr at h
 split at h
 · rename_i g; simp [fullErr, fullLow, fullHigh] at g; omega
 · omega
theorem check_bool {a b : Int} (h : checkErr 3 a b = 0) : 0 ≤ a ∧ a ≤ b ∧ b ≤ 1 := by
 unfold checkErr at h
 split at h
 · rename_i g; simp [fullErr, fullLow, fullHigh] at g; omega
 · omega
theorem unary_not (a b : Int) (w : World) (hc : checkErr 3 a b = 0) :
   Calls Try.prog 20 #[.int .i64 2, .int .i64 3, .agg #[.int .i64 a, .int .i64 b]] w fun e w' => e = .returned (.tuple #[.agg #[.int .i64 (1 - b), .int .i64 (1 - a)], .int .i64 0]) ∧ Below w.heap.size w w' := by
 have F := fun w => Lib.hid (fits1_any 2 3 w)
 rw [show fits1 2 3 = true from rfl] at F
 have C := fun w => Lib.hid (check_any 3 a b w)
 rw [hc] at C
 obtain ⟨b0, b1, b2⟩ := check_bool hc
 clear hc
 go_enter Try.func20, Try.ntmps20
 go_wp2_with fail
 refine (F _).out.mono ?_
 rintro e w1 ⟨rfl, rfl⟩
 go_wp2_with fail
 refine (C _).out.mono ?_
 rintro e w1 ⟨rfl, hB1⟩
 obtain ⟨a0, a1, r0, r1, f0, f1, s0, s1, bl⟩ := (oneIn w a b).later hB1
 clear hB1
 go_wp2
 refine bodyPost_ret (v := .tuple #[.agg #[.int .i64 (1 - b), .int .i64 (1 - a)], .int .i64 0]) (by simp [results, Try.results20, go_sem, *]) rfl ⟨rfl, (bl.setCell (by simp) _).setCell (by simp) _⟩
theorem unary_comp_small (a b : Int) (w : World) (hc : checkErr 2 a b = 0) :
   Calls Try.prog 20 #[.int .i64 3, .int .i64 2, .agg #[.int .i64 a, .int .i64 b]] w fun e w' => e = .returned (.tuple #[.agg #[.int .i64 (255 - b), .int .i64 (255 - a)], .int .i64 0]) ∧ Below w.heap.size w w' := by
 have F := fun w => Lib.hid (fits1_any 3 2 w)
 rw [show fits1 3 2 = true from rfl] at F
 have C := fun w => Lib.hid (check_any 2 a b w)
 rw [hc] at C
 obtain ⟨b0, b1, b2⟩ := check_small hc
 clear hc
 go_enter Try.func20, Try.ntmps20
 go_wp2_with fail
 refine (F _).out.mono ?_
 rintro e w1 ⟨rfl, rfl⟩
 go_wp2_with fail
 refine (C _).out.mono ?_
 rintro e w1 ⟨rfl, hB1⟩
 obtain ⟨a0, a1, r0, r1, f0, f1, s0, s1, bl⟩ := (oneIn w a b).later hB1
 clear hB1
 go_wp2
 refine bodyPost_ret (v := .tuple #[.agg #[.int .i64 (255 - b), .int .i64 (255 - a)], .int .i64 0]) (by simp [results, Try.results20, go_sem, *]) rfl ⟨rfl, (bl.setCell (by simp) _).setCell (by simp) _⟩
theorem unary_comp_int (a b : Int) (w : World) (hc : checkErr 1 a b = 0) :
   Calls Try.prog 20 #[.int .i64 3, .int .i64 1, .agg #[.int .i64 a, .int .i64 b]] w fun e w' => e = .returned (.tuple #[.agg #[.int .i64 (-1 - b), .int .i64 (-1 - a)], .int .i64 0]) ∧ Below w.heap.size w w' := by
 have F := fun w => Lib.hid (fits1_any 3 1 w)
 rw [show fits1 3 1 = true from rfl] at F
 have C := fun w => Lib.hid (check_any 1 a b w)
 rw [hc] at C
 obtain ⟨b0, b1, b2⟩ := check_ok64 hc
 clear hc
 go_enter Try.func20, Try.ntmps20
 go_wp2_with fail
 refine (F _).out.mono ?_
 rintro e w1 ⟨rfl, rfl⟩
 go_wp2_with fail
 refine (C _).out.mono ?_
 rintro e w1 ⟨rfl, hB1⟩
 obtain ⟨a0, a1, r0, r1, f0, f1, s0, s1, bl⟩ := (oneIn w a b).later hB1
 clear hB1
 go_wp2
 refine bodyPost_ret (v := .tuple #[.agg #[.int .i64 (-1 - b), .int .i64 (-1 - a)], .int .i64 0]) (by simp [results, Try.results20, go_sem, *]) rfl ⟨rfl, (bl.setCell (by simp) _).setCell (by simp) _⟩
/-- What Unary makes of a range: its ends and the error. -/
def unaryS (op k a b : Int) : Int × Int × Int :=
 if fits1 op k = true ∧ checkErr k a b = 0 then
   if op = 1 then
     let s := broughtS (min (min (min (wrap64 (0 - a)) (wrap64 (0 - b))) (wrap64 (0 - a))) (wrap64 (0 - b))) (max (max (max (wrap64 (0 - a)) (wrap64 (0 - b))) (wrap64 (0 - a))) (wrap64 (0 - b))) (((out64 (0 - a) || out64 (0 - b)) || out64 (0 - a)) || out64 (0 - b)) k
     (s.1, s.2, 0)
   else if op = 2 then (1 - b, 1 - a, 0)
   else if k = 2 then (255 - b, 255 - a, 0)
   else (-1 - b, -1 - a, 0)
 else (0, 0, 2)
theorem unary_any (op k a b : Int) (w : World) :
   Calls Try.prog 20 #[.int .i64 op, .int .i64 k, .agg #[.int .i64 a, .int .i64 b]] w fun e w' => e = .returned (.tuple #[.agg #[.int .i64 (unaryS op k a b).1, .int .i64 (unaryS op k a b).2.1], .int .i64 (unaryS op k a b).2.2]) ∧ Below w.heap.size w w' := by
 unfold unaryS
 by_cases h : fits1 op k = true ∧ checkErr k a b = 0
 · rw [if_pos h]
   obtain ⟨hf, hc⟩ := h
   have h64 := check_ok64 hc
   have ha : In64 a := ⟨h64.lo, by have := h64.le; have := h64.hi; omega⟩
   have hb : In64 b := ⟨by have := h64.le; have := h64.lo; omega, h64.hi⟩
   have hz : In64 0 := ⟨by omega, by omega⟩
   have hf' := hf
   simp only [fits1, decide_eq_true_eq] at hf'
   by_cases h1 : op = 1
   · subst h1
     rw [if_pos rfl]
     refine unary_neg k a b _ _ _ _ _ w hf hc (fun w => Lib.hid (corners_sub 0 0 a b w _ _ _ _ _ _ _ _ ?_ ?_ ?_ ?_)) (fun w => Lib.hid (brought_any _ _ k _ w))
     · exact fun w => Lib.hid ((difference_any 0 a w hz ha).mono fun _ _ ⟨he, hw⟩ => ⟨he, hw ▸ Below.refl _ _⟩)
     · exact fun w => Lib.hid ((difference_any 0 b w hz hb).mono fun _ _ ⟨he, hw⟩ => ⟨he, hw ▸ Below.refl _ _⟩)
     · exact fun w => Lib.hid ((difference_any 0 a w hz ha).mono fun _ _ ⟨he, hw⟩ => ⟨he, hw ▸ Below.refl _ _⟩)
     · exact fun w => Lib.hid ((difference_any 0 b w hz hb).mono fun _ _ ⟨he, hw⟩ => ⟨he, hw ▸ Below.refl _ _⟩)
   · rw [if_neg h1]
     by_cases h2 : op = 2
     · have hk : k = 3 := by omega
       subst h2; subst hk
       exact unary_not a b w hc
     · rw [if_neg h2]
       have h3 : op = 3 := by omega
       subst h3
       by_cases hk : k = 2
       · subst hk; exact unary_comp_small a b w hc
       · have hk1 : k = 1 := by omega
         subst hk1; exact unary_comp_int a b w hc
 · rw [if_neg h]
   cases hf : fits1 op k
   · exact unary_fits op k a b w hf
   · exact unary_check op k a b w hf (by simp; exact fun hc => h ⟨hf, hc⟩)
end Go.Proofs.Ytgkhldbnljdeiaa
namespace Go.Proofs.Ytgkhldbnljdeiaa
open Go.RowKit
attribute [local go_sem] World.setCell_self
/-- Two ranges that came in, and the result's range. -/
structure TwoIn (w wx : World) (a b c d : Int) : Prop where
 a0 : wx.cell? ⟨w.heap.size, 0, none⟩ = some (.int .i64 a)
 a1 : wx.cell? ⟨w.heap.size, 1, none⟩ = some (.int .i64 b)
 b0 : wx.cell? ⟨w.heap.size + 1, 0, none⟩ = some (.int .i64 c)
 b1 : wx.cell? ⟨w.heap.size + 1, 1, none⟩ = some (.int .i64 d)
 r0 : wx.cell? ⟨w.heap.size + 1 + 1, 0, none⟩ = some (.int .i64 0)
 r1 : wx.cell? ⟨w.heap.size + 1 + 1, 1, none⟩ = some (.int .i64 0)
 f0 : wx.frozen? ⟨w.heap.size + 1 + 1, 0, none⟩ = false
 f1 : wx.frozen? ⟨w.heap.size + 1 + 1, 1, none⟩ = false
 s0 : w.heap.size < wx.heap.size
 s1 : w.heap.size + 1 < wx.heap.size
 s2 : w.heap.size + 1 + 1 < wx.heap.size
 bl : Below w.heap.size w wx
theorem TwoIn.later {w wx wy : World} {a b c d : Int} (h : TwoIn w wx a b c d) (hb : Below wx.heap.size wx wy) : TwoIn w wy a b c d :=
 ⟨cell_later hb h.a0, cell_later hb h.a1, cell_later hb h.b0, cell_later hb h.b1, cell_later hb h.r0, cell_later hb h.r1, keepFr hb h.s2 h.f0, keepFr hb h.s2 h.f1, Nat.lt_of_lt_of_le h.s0 hb.size, Nat.lt_of_lt_of_le h.s1 hb.size, Nat.lt_of_lt_of_le h.s2 hb.size, h.bl.trans (hb.mono (Nat.le_of_lt h.s0))⟩
theorem twoIn (w : World) (a b c d : Int) : TwoIn w (((w.alloc (.cells #[.int .i64 a, .int .i64 b] 23)).alloc (.cells #[.int .i64 c, .int .i64 d] 23)).alloc (.cells #[.int .i64 0, .int .i64 0] 23)) a b c d :=
 ⟨by go_simp, by go_simp, by go_simp, by go_simp, by go_simp, by go_simp, by go_simp, by go_simp, by (simp; try omega), by (simp; try omega), by (simp; try omega), (((Below.refl _ _).alloc (Nat.le_refl _) _).alloc (by simp) _).alloc (by simp; omega) _⟩
def truthS (p q : Bool) : Int × Int := (if p then 1 else 0, if p then 1 else if q then 0 else 1)
theorem truth_S (p q : Bool) (w : World) : Calls Try.prog 66 #[.bool p, .bool q] w fun e w' => e = .returned (.agg #[.int .i64 (truthS p q).1, .int .i64 (truthS p q).2]) ∧ Below w.heap.size w w' := truth_any p q w
theorem compared_13 (a b c d : Int) (w : World) :
   Calls Try.prog 41 #[.int .i64 13, .agg #[.int .i64 a, .int .i64 b], .agg #[.int .i64 c, .int .i64 d]] w fun e w' => e = .returned (.agg #[.int .i64 (truthS (decide (b < c)) (decide (d ≤ a))).1, .int .i64 (truthS (decide (b < c)) (decide (d ≤ a))).2]) ∧ Below w.heap.size w w' := by
 have T := fun w => Lib.hid (truth_S (decide (b < c)) (decide (d ≤ a)) w)
 generalize (truthS (decide (b < c)) (decide (d ≤ a))).1 = x at *
 generalize (truthS (decide (b < c)) (decide (d ≤ a))).2 = y at *
 go_enter Try.func41, Try.ntmps41
 go_wp2_with fail
 refine (T _).out.mono ?_
 rintro e w1 ⟨rfl, hB⟩
 obtain ⟨a0, a1, b0, b1, r0, r1, f0, f1, s0, s1, s2, bl⟩ := (twoIn w a b c d).later hB
 clear hB
 go_wp2
 refine bodyPost_ret (v := .agg #[.int .i64 x, .int .i64 y]) (by simp [results, Try.results41, go_sem, *]) rfl ⟨rfl, (bl.setCell (by simp; omega) _).setCell (by simp; omega) _⟩
theorem compared_14 (a b c d : Int) (w : World) :
   Calls Try.prog 41 #[.int .i64 14, .agg #[.int .i64 a, .int .i64 b], .agg #[.int .i64 c, .int .i64 d]] w fun e w' => e = .returned (.agg #[.int .i64 (truthS (decide (b ≤ c)) (decide (d < a))).1, .int .i64 (truthS (decide (b ≤ c)) (decide (d < a))).2]) ∧ Below w.heap.size w w' := by
 have T := fun w => Lib.hid (truth_S (decide (b ≤ c)) (decide (d < a)) w)
 generalize (truthS (decide (b ≤ c)) (decide (d < a))).1 = x at *
 generalize (truthS (decide (b ≤ c)) (decide (d < a))).2 = y at *
 go_enter Try.func41, Try.ntmps41
 go_wp2_with fail
 refine (T _).out.mono ?_
 rintro e w1 ⟨rfl, hB⟩
 obtain ⟨a0, a1, b0, b1, r0, r1, f0, f1, s0, s1, s2, bl⟩ := (twoIn w a b c d).later hB
 clear hB
 go_wp2
 refine bodyPost_ret (v := .agg #[.int .i64 x, .int .i64 y]) (by simp [results, Try.results41, go_sem, *]) rfl ⟨rfl, (bl.setCell (by simp; omega) _).setCell (by simp; omega) _⟩
theorem compared_15 (a b c d : Int) (w : World) :
   Calls Try.prog 41 #[.int .i64 15, .agg #[.int .i64 a, .int .i64 b], .agg #[.int .i64 c, .int .i64 d]] w fun e w' => e = .returned (.agg #[.int .i64 (truthS (decide (d < a)) (decide (b ≤ c))).1, .int .i64 (truthS (decide (d < a)) (decide (b ≤ c))).2]) ∧ Below w.heap.size w w' := by
 have T := fun w => Lib.hid (truth_S (decide (d < a)) (decide (b ≤ c)) w)
 generalize (truthS (decide (d < a)) (decide (b ≤ c))).1 = x at *
 generalize (truthS (decide (d < a)) (decide (b ≤ c))).2 = y at *
 go_enter Try.func41, Try.ntmps41
 go_wp2_with fail
 refine (T _).out.mono ?_
 rintro e w1 ⟨rfl, hB⟩
 obtain ⟨a0, a1, b0, b1, r0, r1, f0, f1, s0, s1, s2, bl⟩ := (twoIn w a b c d).later hB
 clear hB
 go_wp2
 refine bodyPost_ret (v := .agg #[.int .i64 x, .int .i64 y]) (by simp [results, Try.results41, go_sem, *]) rfl ⟨rfl, (bl.setCell (by simp; omega) _).setCell (by simp; omega) _⟩
theorem compared_16 (a b c d : Int) (w : World) :
   Calls Try.prog 41 #[.int .i64 16, .agg #[.int .i64 a, .int .i64 b], .agg #[.int .i64 c, .int .i64 d]] w fun e w' => e = .returned (.agg #[.int .i64 (truthS (decide (d ≤ a)) (decide (b < c))).1, .int .i64 (truthS (decide (d ≤ a)) (decide (b < c))).2]) ∧ Below w.heap.size w w' := by
 have T := fun w => Lib.hid (truth_S (decide (d ≤ a)) (decide (b < c)) w)
 generalize (truthS (decide (d ≤ a)) (decide (b < c))).1 = x at *
 generalize (truthS (decide (d ≤ a)) (decide (b < c))).2 = y at *
 go_enter Try.func41, Try.ntmps41
 go_wp2_with fail
 refine (T _).out.mono ?_
 rintro e w1 ⟨rfl, hB⟩
 obtain ⟨a0, a1, b0, b1, r0, r1, f0, f1, s0, s1, s2, bl⟩ := (twoIn w a b c d).later hB
 clear hB
 go_wp2
 refine bodyPost_ret (v := .agg #[.int .i64 x, .int .i64 y]) (by simp [results, Try.results41, go_sem, *]) rfl ⟨rfl, (bl.setCell (by simp; omega) _).setCell (by simp; omega) _⟩
end Go.Proofs.Ytgkhldbnljdeiaa
