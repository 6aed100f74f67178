/- Shown, LawAssume, LawSets. -/
import Derived.Test.YtgkhldbnljdeiaaQSetSelfToRefB
import Derived.Deep.RegionHeld3
set_option maxRecDepth 100000
set_option maxHeartbeats 1000000
set_option linter.unusedSimpArgs false
set_option linter.unusedVariables false
namespace Go.Proofs.Ytgkhldbnljdeiaa
open Go.RowKit
def Eff (l h : Int) (s t u : Bool) : Value := .agg #[.int .i64 l, .int .i64 h, .bool s, .bool t, .bool u]
/-- Binary of the program under proof, at one input: it returns an effect and no error. -/
def BinOK (op k a b c d : Int) (l h : Int) (s t u : Bool) : Prop := ∀ w : World, Calls Try.prog 21 #[.int .i64 op, .int .i64 k, .agg #[.int .i64 a, .int .i64 b], .agg #[.int .i64 c, .int .i64 d]] w fun e w' => e = .returned (.tuple #[.agg #[.int .i64 l, .int .i64 h, .bool s, .bool t, .bool u], .int .i64 0]) ∧ Below w.heap.size w w'
def AssOK (op k a b c d : Int) (r : Bool) (x0 x1 y0 y1 : Int) (p : Bool) : Prop := ∀ w : World, Calls Try.prog 25 #[.int .i64 op, .int .i64 k, .agg #[.int .i64 a, .int .i64 b], .agg #[.int .i64 c, .int .i64 d], .bool r] w fun e w' => e = .returned (.tuple #[.agg #[.int .i64 x0, .int .i64 x1], .agg #[.int .i64 y0, .int .i64 y1], .bool p, .int .i64 0]) ∧ Below w.heap.size w w'
theorem keepA {w wx : World} {o : Obj} {a : Addr} {v : Value} (hb : Below (w.alloc o).heap.size (w.alloc o) wx) (h : w.cell? a = some v) : wx.cell? a = some v :=
 cell_later hb (by rw [World.cell?_alloc_lt _ _ _ (World.block_lt_of_cell? w a h)]; exact h)
theorem newA {w wx : World} {c : Array Value} {t i : Nat} {v : Value} (hb : Below (w.alloc (.cells c t)).heap.size (w.alloc (.cells c t)) wx) (h : c[i]? = some v) : wx.cell? ⟨w.heap.size, i, none⟩ = some v :=
 cell_later hb (by rw [World.cell?_alloc_new]; exact h)
theorem shown_of (h1 : BinOK 4 1 1 3 10 20 11 23 true false false) (h2 : BinOK 5 2 5 6 10 10 251 252 true false false) (h3 : BinOK 2 1 (-7) 9 (-2) 3 (-9) 9 true true false) (h4 : BinOK 3 1 (-5) 20 4 4 (-3) 3 true false false) (h5 : AssOK 13 1 0 10 5 5 true 0 4 5 5 true) (w : World) :
   Calls Try.prog 10 #[] w fun e w' => e = .returned (.bool true) ∧ Below w.heap.size w w' := by
 go_enter Try.func10, Try.ntmps10
 go_wp2_with fail
 refine (h1 _).mono ?_
 rintro e w1 ⟨rfl, hB1⟩
 have hz1 : w.heap.size ≤ w1.heap.size := by simpa using hB1.size
 have hT1 : Below w.heap.size w w1 := hB1
 go_wp2_with fail
 refine (h2 _).mono ?_
 rintro e w2 ⟨rfl, hB2⟩
 have hz2 : w1.heap.size < w2.heap.size := by have := hB2.size; simp at this; omega
 have hT2 : Below w.heap.size w w2 := (hT1.alloc (by omega) _).trans (hB2.mono (by simp; omega))
 have a2_1_0 : w2.cell? ⟨w1.heap.size, 0, none⟩ = some (.int .i64 (11)) := newA hB2 rfl
 have a2_1_1 : w2.cell? ⟨w1.heap.size, 1, none⟩ = some (.int .i64 (23)) := newA hB2 rfl
 clear hB2
 clear hT1
 go_wp2_with fail
 refine (h3 _).mono ?_
 rintro e w3 ⟨rfl, hB3⟩
 have hz3 : w2.heap.size < w3.heap.size := by have := hB3.size; simp at this; omega
 have hz13 : w1.heap.size < w3.heap.size := by omega
 have hT3 : Below w.heap.size w w3 := (hT2.alloc (by omega) _).trans (hB3.mono (by simp; omega))
 have a3_1_0 := keepA hB3 a2_1_0
 have a3_1_1 := keepA hB3 a2_1_1
 have a3_2_0 : w3.cell? ⟨w2.heap.size, 0, none⟩ = some (.int .i64 (251)) := newA hB3 rfl
 have a3_2_1 : w3.cell? ⟨w2.heap.size, 1, none⟩ = some (.int .i64 (252)) := newA hB3 rfl
 clear a2_1_0 a2_1_1
 clear hB3
 clear hT2
 go_wp2_with fail
 refine (h4 _).mono ?_
 rintro e w4 ⟨rfl, hB4⟩
 have hz4 : w3.heap.size < w4.heap.size := by have := hB4.size; simp at this; omega
 have hz14 : w1.heap.size < w4.heap.size := by omega
 have hz24 : w2.heap.size < w4.heap.size := by omega
 have hT4 : Below w.heap.size w w4 := (hT3.alloc (by omega) _).trans (hB4.mono (by simp; omega))
 have a4_1_0 := keepA hB4 a3_1_0
 have a4_1_1 := keepA hB4 a3_1_1
 have a4_2_0 := keepA hB4 a3_2_0
 have a4_2_1 := keepA hB4 a3_2_1
 have a4_3_0 : w4.cell? ⟨w3.heap.size, 0, none⟩ = some (.int .i64 (-9)) := newA hB4 rfl
 have a4_3_1 : w4.cell? ⟨w3.heap.size, 1, none⟩ = some (.int .i64 (9)) := newA hB4 rfl
 have a4_3_2 : w4.cell? ⟨w3.heap.size, 2, none⟩ = some (.bool true) := newA hB4 rfl
 have a4_3_3 : w4.cell? ⟨w3.heap.size, 3, none⟩ = some (.bool true) := newA hB4 rfl
 have a4_3_4 : w4.cell? ⟨w3.heap.size, 4, none⟩ = some (.bool false) := newA hB4 rfl
 clear a3_1_0 a3_1_1 a3_2_0 a3_2_1
 clear hB4
 clear hT3
 go_wp2_with fail
 refine (h5 _).mono ?_
 rintro e w5 ⟨rfl, hB5⟩
 have hz5 : w4.heap.size < w5.heap.size := by have := hB5.size; simp at this; omega
 have hz15 : w1.heap.size < w5.heap.size := by omega
 have hz25 : w2.heap.size < w5.heap.size := by omega
 have hz35 : w3.heap.size < w5.heap.size := by omega
 have hT5 : Below w.heap.size w w5 := (hT4.alloc (by omega) _).trans (hB5.mono (by simp; omega))
 have a5_1_0 := keepA hB5 a4_1_0
 have a5_1_1 := keepA hB5 a4_1_1
 have a5_2_0 := keepA hB5 a4_2_0
 have a5_2_1 := keepA hB5 a4_2_1
 have a5_3_0 := keepA hB5 a4_3_0
 have a5_3_1 := keepA hB5 a4_3_1
 have a5_3_2 := keepA hB5 a4_3_2
 have a5_3_3 := keepA hB5 a4_3_3
 have a5_3_4 := keepA hB5 a4_3_4
 have a5_4_0 : w5.cell? ⟨w4.heap.size, 0, none⟩ = some (.int .i64 (-3)) := newA hB5 rfl
 have a5_4_1 : w5.cell? ⟨w4.heap.size, 1, none⟩ = some (.int .i64 (3)) := newA hB5 rfl
 clear a4_1_0 a4_1_1 a4_2_0 a4_2_1 a4_3_0 a4_3_1 a4_3_2 a4_3_3 a4_3_4
 clear hB5
 clear hT4
 clear hB1
 go_wp2
 go_ret
 exact ⟨rfl, (hT5.alloc (by omega) _).alloc (by simp; omega) _⟩
end Go.Proofs.Ytgkhldbnljdeiaa
namespace Go.Proofs.Ytgkhldbnljdeiaa
open Go.RowKit
def ShownOK' : Prop := ∀ w : World, Calls Try.prog 10 #[] w fun e w' => e = .returned (.bool true) ∧ Below w.heap.size w w'
/-- The three arguments of a law in their variables. -/
structure Three (w wx : World) (o k a b c d : Int) : Prop where
 o0 : wx.cell? ⟨w.heap.size, 0, none⟩ = some (.int .i64 o)
 o1 : wx.cell? ⟨w.heap.size, 1, none⟩ = some (.int .i64 k)
 a0 : wx.cell? ⟨w.heap.size + 1, 0, none⟩ = some (.int .i64 a)
 a1 : wx.cell? ⟨w.heap.size + 1, 1, none⟩ = some (.int .i64 b)
 b0 : wx.cell? ⟨w.heap.size + 1 + 1, 0, none⟩ = some (.int .i64 c)
 b1 : wx.cell? ⟨w.heap.size + 1 + 1, 1, none⟩ = some (.int .i64 d)
 s0 : w.heap.size < wx.heap.size
 s1 : w.heap.size + 1 < wx.heap.size
 s2 : w.heap.size + 1 + 1 < wx.heap.size
 bl : Below w.heap.size w wx
theorem Three.later {w wx wy : World} {o k a b c d : Int} (h : Three w wx o k a b c d) (hb : Below wx.heap.size wx wy) : Three w wy o k a b c d :=
 ⟨cell_later hb h.o0, cell_later hb h.o1, cell_later hb h.a0, cell_later hb h.a1, cell_later hb h.b0, cell_later hb h.b1, Nat.lt_of_lt_of_le h.s0 hb.size, Nat.lt_of_lt_of_le h.s1 hb.size, Nat.lt_of_lt_of_le h.s2 hb.size, h.bl.trans (hb.mono (Nat.le_of_lt h.s0))⟩
theorem Three.alloc {w wx : World} {o k a b c d : Int} (h : Three w wx o k a b c d) (ob : Obj) : Three w (wx.alloc ob) o k a b c d := h.later ((Below.refl _ _).alloc (Nat.le_refl _) ob)
theorem three (w : World) (o k a b c d : Int) (T : Nat) : Three w (((w.alloc (.cells #[.int .i64 o, .int .i64 k] T)).alloc (.cells #[.int .i64 a, .int .i64 b] 23)).alloc (.cells #[.int .i64 c, .int .i64 d] 23)) o k a b c d :=
 ⟨by go_simp, by go_simp, by go_simp, by go_simp, by go_simp, by go_simp, by simp; omega, by simp, by simp, (((Below.refl _ _).alloc (Nat.le_refl _) _).alloc (by simp) _).alloc (by simp; omega) _⟩
theorem assume_of (hs : ShownOK') (o k a b c d : Int) (x0 x1 y0 y1 e : Bool → Int) (p : Bool → Bool)
   (hA : ∀ (r : Bool) (w : World), Hid (Calls Try.prog 25 #[.int .i64 o, .int .i64 k, .agg #[.int .i64 a, .int .i64 b], .agg #[.int .i64 c, .int .i64 d], .bool r] w fun t w' => t = .returned (.tuple #[.agg #[.int .i64 (x0 r), .int .i64 (x1 r)], .agg #[.int .i64 (y0 r), .int .i64 (y1 r)], .bool (p r), .int .i64 (e r)]) ∧ Below w.heap.size w w'))
   (hB : ∀ (r : Bool) (w : World), Hid (Calls Try.prog 26 #[.int .i64 o, .int .i64 k, .agg #[.int .i64 a, .int .i64 b], .agg #[.int .i64 c, .int .i64 d], .bool r] w fun t w' => t = .returned (.tuple #[.agg #[.int .i64 (x0 r), .int .i64 (x1 r)], .agg #[.int .i64 (y0 r), .int .i64 (y1 r)], .bool (p r), .int .i64 (e r)]) ∧ Below w.heap.size w w')) (w : World) :
   Calls Try.prog 5 #[.agg #[.int .i64 o, .int .i64 k], .agg #[.int .i64 a, .int .i64 b], .agg #[.int .i64 c, .int .i64 d]] w fun e w' => e = .returned (.bool true) ∧ Below w.heap.size w w' := by
 go_enter Try.func5, Try.ntmps5
 go_wp2_with fail
 refine (hs _).mono ?_
 rintro e1 w1 ⟨rfl, hB1⟩
 have I1 := (three w o k a b c d _).later hB1
 clear hB1
 have J1 := Lib.hid I1
 clear I1
 go_wp2_with fail
 go_loopw [7] (fun i wr => (i = .int .i64 0 ∨ i = .int .i64 1 ∨ i = .int .i64 2) ∧ Three w wr o k a b c d) (fun i _ => (2 - intOf i).toNat)
 case atStart => exact ⟨.inl rfl, J1.out⟩
 case round =>
   obtain ⟨hi, I⟩ := hrel
   clear J1
   have J := Lib.hid I
   obtain ⟨o0, o1, a0, a1, b0, b1, s0, s1, s2, bl⟩ := I
   rcases hi with rfl | rfl | rfl
   · go_wp2_with fail
     refine (hA _ _).out.mono ?_
     clear o0 o1 a0 a1 b0 b1 s0 s1 s2 bl
     rintro e2 w2 ⟨rfl, hB2⟩
     have J2 := Lib.hid (J.out.later hB2)
     clear hB2 J
     obtain ⟨o0, o1, a0, a1, b0, b1, s0, s1, s2, bl⟩ := J2.out
     clear bl
     go_wp2_with fail
     refine (hB _ _).out.mono ?_
     clear o0 o1 a0 a1 b0 b1 s0 s1 s2
     rintro e3 w3 ⟨rfl, hB3⟩
     have z3 : w2.heap.size + 1 < w3.heap.size := by have := hB3.size; simp at this; omega
     have z3' : w2.heap.size < w3.heap.size := by omega
     have q0 : w3.cell? ⟨w2.heap.size, 0, none⟩ = some (.int .i64 (x0 false)) := cell_later hB3 (by go_simp)
     have q1 : w3.cell? ⟨w2.heap.size, 1, none⟩ = some (.int .i64 (x1 false)) := cell_later hB3 (by go_simp)
     have q2 : w3.cell? ⟨w2.heap.size + 1, 0, none⟩ = some (.int .i64 (y0 false)) := cell_later hB3 (by go_simp)
     have q3 : w3.cell? ⟨w2.heap.size + 1, 1, none⟩ = some (.int .i64 (y1 false)) := cell_later hB3 (by go_simp)
     have J3 := Lib.hid (((J2.out.alloc _).alloc _).later hB3)
     clear hB3 J2
     go_wp2_with fail
     go_roundw
     case rel => exact ⟨.inr (.inl rfl), (J3.out.alloc _).alloc _⟩
     case measure => simp [intOf]
   · go_wp2_with fail
     refine (hA _ _).out.mono ?_
     clear o0 o1 a0 a1 b0 b1 s0 s1 s2 bl
     rintro e2 w2 ⟨rfl, hB2⟩
     have J2 := Lib.hid (J.out.later hB2)
     clear hB2 J
     obtain ⟨o0, o1, a0, a1, b0, b1, s0, s1, s2, bl⟩ := J2.out
     clear bl
     go_wp2_with fail
     refine (hB _ _).out.mono ?_
     clear o0 o1 a0 a1 b0 b1 s0 s1 s2
     rintro e3 w3 ⟨rfl, hB3⟩
     have z3 : w2.heap.size + 1 < w3.heap.size := by have := hB3.size; simp at this; omega
     have z3' : w2.heap.size < w3.heap.size := by omega
     have q0 : w3.cell? ⟨w2.heap.size, 0, none⟩ = some (.int .i64 (x0 true)) := cell_later hB3 (by go_simp)
     have q1 : w3.cell? ⟨w2.heap.size, 1, none⟩ = some (.int .i64 (x1 true)) := cell_later hB3 (by go_simp)
     have q2 : w3.cell? ⟨w2.heap.size + 1, 0, none⟩ = some (.int .i64 (y0 true)) := cell_later hB3 (by go_simp)
     have q3 : w3.cell? ⟨w2.heap.size + 1, 1, none⟩ = some (.int .i64 (y1 true)) := cell_later hB3 (by go_simp)
     have J3 := Lib.hid (((J2.out.alloc _).alloc _).later hB3)
     clear hB3 J2
     go_wp2_with fail
     go_roundw
     case rel => exact ⟨.inr (.inr rfl), (J3.out.alloc _).alloc _⟩
     case measure => simp [intOf]
   · clear o0 o1 a0 a1 b0 b1 s0 s1 s2 bl
     go_wp2
     go_ret
     exact ⟨rfl, J.out.bl⟩
end Go.Proofs.Ytgkhldbnljdeiaa
namespace Go.Proofs.Ytgkhldbnljdeiaa
open Go.RowKit
def ShownOK : Prop := ∀ w : World, Calls Try.prog 10 #[] w fun e w' => e = .returned (.bool true) ∧ Below w.heap.size w w'
def FullOK (f : Nat) : Prop := ∀ (k : Int) (w : World), Calls Try.prog f #[.int .i64 k] w fun e w' => e = .returned (.tuple #[.agg #[.int .i64 (fullLow k), .int .i64 (fullHigh k)], .int .i64 (fullErr k)]) ∧ Below w.heap.size w w'
def CheckOK (f : Nat) : Prop := ∀ (k lo hi : Int) (w : World), Calls Try.prog f #[.int .i64 k, .agg #[.int .i64 lo, .int .i64 hi]] w fun e w' => e = .returned (.int .i64 (checkErr k lo hi)) ∧ Below w.heap.size w w'
/-- A function of two ranges that returns a range and an error. -/
def PairOK (f : Nat) (a b c d x y e : Int) : Prop := ∀ w : World, Calls Try.prog f #[.agg #[.int .i64 a, .int .i64 b], .agg #[.int .i64 c, .int .i64 d]] w fun r w' => r = .returned (.tuple #[.agg #[.int .i64 x, .int .i64 y], .int .i64 e]) ∧ Below w.heap.size w w'
def MeetOK (f : Nat) (a b c d x y : Int) (p : Bool) (e : Int) : Prop := ∀ w : World, Calls Try.prog f #[.agg #[.int .i64 a, .int .i64 b], .agg #[.int .i64 c, .int .i64 d]] w fun r w' => r = .returned (.tuple #[.agg #[.int .i64 x, .int .i64 y], .bool p, .int .i64 e]) ∧ Below w.heap.size w w'
theorem newF {w wx : World} {c : Array Value} {t i : Nat} (hb : Below (w.alloc (.cells c t)).heap.size (w.alloc (.cells c t)) wx) : wx.frozen? ⟨w.heap.size, i, none⟩ = false := by
 rw [hb.frozen (p := ⟨w.heap.size, i, none⟩) (by simp)]
 go_simp
theorem keepF {w wx : World} {o : Obj} {b i : Nat} (hb : Below (w.alloc o).heap.size (w.alloc o) wx) (hl : b < w.heap.size) (h : w.frozen? ⟨b, i, none⟩ = false) : wx.frozen? ⟨b, i, none⟩ = false := by
 rw [hb.frozen (p := ⟨b, i, none⟩) (by simp; omega)]
 go_simp
theorem sets_of (hs : ShownOK) (hf : FullOK 11) (hg : FullOK 12) (hc : CheckOK 13) (hd : CheckOK 14) (k a b c d x y e u v e' : Int) (p : Bool) (hj : PairOK 15 a b c d x y e) (hi : PairOK 16 a b c d x y e) (hm : MeetOK 17 a b c d u v p e') (hn : MeetOK 18 a b c d u v p e') (w : World) :
   Calls Try.prog 3 #[.int .i64 k, .agg #[.int .i64 a, .int .i64 b], .agg #[.int .i64 c, .int .i64 d]] w fun e w' => e = .returned (.bool true) ∧ Below w.heap.size w w' := by
 have HC := fun w => Lib.hid (hc k a b w)
 have HD := fun w => Lib.hid (hd k a b w)
 clear hc hd
 generalize checkErr k a b = ce at *
 go_enter Try.func3, Try.ntmps3
 go_wp2_with fail
 refine (hs _).mono ?_
 rintro e1 w1 ⟨rfl, hB1⟩
 have hz1 : w.heap.size + 1 < w1.heap.size := by have := hB1.size; simp at this; omega
 have hT1 : Below w.heap.size w w1 := ((((Below.refl _ _).alloc (Nat.le_refl _) _).alloc (by simp) _).trans (hB1.mono (by simp; omega)))
 have a0 : w1.cell? ⟨w.heap.size, 0, none⟩ = some (.int .i64 a) := cell_later hB1 (by go_simp)
 have a1 : w1.cell? ⟨w.heap.size, 1, none⟩ = some (.int .i64 b) := cell_later hB1 (by go_simp)
 have b0 : w1.cell? ⟨w.heap.size + 1, 0, none⟩ = some (.int .i64 c) := cell_later hB1 (by go_simp)
 have b1 : w1.cell? ⟨w.heap.size + 1, 1, none⟩ = some (.int .i64 d) := cell_later hB1 (by go_simp)
 clear hB1
 go_wp2_with fail
 refine (hf _ _).mono ?_
 rintro e2 w2 ⟨rfl, hB2⟩
 have hz2 : w.heap.size + 1 < w2.heap.size := by have := hB2.size; omega
 have hT2 : Below w.heap.size w w2 := hT1.trans (hB2.mono (by omega))
 replace a0 := cell_later hB2 a0
 replace a1 := cell_later hB2 a1
 replace b0 := cell_later hB2 b0
 replace b1 := cell_later hB2 b1
 clear hB2 hT1 hz1
 go_wp2_with fail
 refine (hg _ _).mono ?_
 rintro e3 w3 ⟨rfl, hB3⟩
 have hz23 : w2.heap.size < w3.heap.size := by have := hB3.size; simp at this; omega
 have hz3 : w.heap.size + 1 < w3.heap.size := by omega
 have hT3 : Below w.heap.size w w3 := (hT2.alloc (by omega) _).trans (hB3.mono (by simp; omega))
 replace a0 := keepA hB3 a0
 replace a1 := keepA hB3 a1
 replace b0 := keepA hB3 b0
 replace b1 := keepA hB3 b1
 have f0 : w3.cell? ⟨w2.heap.size, 0, none⟩ = some (.int .i64 (fullLow k)) := newA hB3 rfl
 have f1 : w3.cell? ⟨w2.heap.size, 1, none⟩ = some (.int .i64 (fullHigh k)) := newA hB3 rfl
 clear hB3 hT2
 go_wp2_with fail
 generalize fullErr k = fe at *
 generalize fullHigh k = fh at *
 generalize fullLow k = fl at *
 generalize hW : w3.alloc (.cells #[.int .i64 fl, .int .i64 fh] 23) = W
 have g0 : W.cell? ⟨w3.heap.size, 0, none⟩ = some (.int .i64 fl) := by rw [← hW, World.cell?_alloc_new]; rfl
 have g1 : W.cell? ⟨w3.heap.size, 1, none⟩ = some (.int .i64 fh) := by rw [← hW, World.cell?_alloc_new]; rfl
 have hzW : w3.heap.size < W.heap.size := by rw [← hW]; simp
 have hTW : Below w.heap.size w W := by rw [← hW]; exact hT3.alloc (by omega) _
 replace a0 : W.cell? ⟨w.heap.size, 0, none⟩ = some (.int .i64 a) := by rw [← hW, World.cell?_alloc_lt _ _ _ (by simp; omega)]; exact a0
 replace a1 : W.cell? ⟨w.heap.size, 1, none⟩ = some (.int .i64 b) := by rw [← hW, World.cell?_alloc_lt _ _ _ (by simp; omega)]; exact a1
 replace b0 : W.cell? ⟨w.heap.size + 1, 0, none⟩ = some (.int .i64 c) := by rw [← hW, World.cell?_alloc_lt _ _ _ (by simp; omega)]; exact b0
 replace b1 : W.cell? ⟨w.heap.size + 1, 1, none⟩ = some (.int .i64 d) := by rw [← hW, World.cell?_alloc_lt _ _ _ (by simp; omega)]; exact b1
 replace f0 : W.cell? ⟨w2.heap.size, 0, none⟩ = some (.int .i64 fl) := by rw [← hW, World.cell?_alloc_lt _ _ _ hz23]; exact f0
 replace f1 : W.cell? ⟨w2.heap.size, 1, none⟩ = some (.int .i64 fh) := by rw [← hW, World.cell?_alloc_lt _ _ _ hz23]; exact f1
 clear hW hT3
 generalize w2.heap.size = n2 at *
 generalize w3.heap.size = n3 at *
 go_region_held3 (fun w' => w'.cell? ⟨w.heap.size, 0, none⟩ = some (.int .i64 a) ∧ w'.cell? ⟨w.heap.size, 1, none⟩ = some (.int .i64 b) ∧ w'.cell? ⟨n2, 0, none⟩ = some (.int .i64 fl) ∧ w'.cell? ⟨n2, 1, none⟩ = some (.int .i64 fh) ∧ w'.cell? ⟨n3, 0, none⟩ = some (.int .i64 fl) ∧ w'.cell? ⟨n3, 1, none⟩ = some (.int .i64 fh) ∧ w'.cell? ⟨w.heap.size + 1, 0, none⟩ = some (.int .i64 c) ∧ w'.cell? ⟨w.heap.size + 1, 1, none⟩ = some (.int .i64 d) ∧ Below w.heap.size w w' ∧ W.heap.size ≤ w'.heap.size)
   (first
     | exact ⟨a0, a1, f0, f1, g0, g1, b0, b1, hTW.drew, Nat.le_refl _⟩
     | (go_split_ands; exact ⟨cell_later hBq ‹_›, cell_later hBq ‹_›, cell_later hBq ‹_›, cell_later hBq ‹_›, cell_later hBq ‹_›, cell_later hBq ‹_›, cell_later hBq ‹_›, cell_later hBq ‹_›, Below.trans ‹_› (hBq.mono (by omega)), by have := hBq.size; omega⟩))
   (first
     | (go_at_call 13; refine (HC _).out.mono ?_; rintro eq wq ⟨rfl, hBq⟩)
     | (go_at_call 14; refine (HD _).out.mono ?_; rintro eq wq ⟨rfl, hBq⟩))
 rename_i hq
 clear hBq
 obtain ⟨a0, a1, f0, f1, g0, g1, b0, b1, hTq, hzq⟩ := hq
 have hz4 : w.heap.size + 1 < wq.heap.size := by omega
 clear f0 f1 g0 g1 hTW hzW hzq
 go_wp2_with fail
 refine (hj _).mono ?_
 rintro e4 w4 ⟨rfl, hB4⟩
 have hz5 : w.heap.size + 1 < w4.heap.size := by have := hB4.size; omega
 have hz5' : w.heap.size < w4.heap.size := by omega
 have hT4 : Below w.heap.size w w4 := hTq.trans (hB4.mono (by omega))
 replace a0 := cell_later hB4 a0
 replace a1 := cell_later hB4 a1
 replace b0 := cell_later hB4 b0
 replace b1 := cell_later hB4 b1
 clear hB4 hTq
 go_wp2_with fail
 refine (hi _).mono ?_
 rintro e5 w5 ⟨rfl, hB5⟩
 have hz45 : w4.heap.size < w5.heap.size := by have := hB5.size; simp at this; omega
 have hz6 : w.heap.size + 1 < w5.heap.size := by omega
 have hz6' : w.heap.size < w5.heap.size := by omega
 have hT5 : Below w.heap.size w w5 := (hT4.alloc (by omega) _).trans (hB5.mono (by simp; omega))
 replace a0 := keepA hB5 a0
 replace a1 := keepA hB5 a1
 replace b0 := keepA hB5 b0
 replace b1 := keepA hB5 b1
 have x0 : w5.cell? ⟨w4.heap.size, 0, none⟩ = some (.int .i64 x) := newA hB5 rfl
 have x1 : w5.cell? ⟨w4.heap.size, 1, none⟩ = some (.int .i64 y) := newA hB5 rfl
 have fx0 : w5.frozen? ⟨w4.heap.size, 0, none⟩ = false := newF hB5
 have fx1 : w5.frozen? ⟨w4.heap.size, 1, none⟩ = false := newF hB5
 clear hB5 hT4
 go_wp2_with fail
 refine (hm _).mono ?_
 rintro e6 w6 ⟨rfl, hB6⟩
 have hz56 : w5.heap.size < w6.heap.size := by have := hB6.size; simp at this; omega
 have hz46 : w4.heap.size < w6.heap.size := by omega
 have hz7 : w.heap.size + 1 < w6.heap.size := by omega
 have hz7' : w.heap.size < w6.heap.size := by omega
 have hT6 : Below w.heap.size w w6 := (hT5.alloc (by omega) _).trans (hB6.mono (by simp; omega))
 replace a0 := keepA hB6 a0
 replace a1 := keepA hB6 a1
 replace b0 := keepA hB6 b0
 replace b1 := keepA hB6 b1
 replace x0 := keepA hB6 x0
 replace x1 := keepA hB6 x1
 replace fx0 := keepF hB6 hz45 fx0
 replace fx1 := keepF hB6 hz45 fx1
 have z0 : w6.cell? ⟨w5.heap.size, 0, none⟩ = some (.int .i64 x) := newA hB6 rfl
 have z1 : w6.cell? ⟨w5.heap.size, 1, none⟩ = some (.int .i64 y) := newA hB6 rfl
 have fz0 : w6.frozen? ⟨w5.heap.size, 0, none⟩ = false := newF hB6
 have fz1 : w6.frozen? ⟨w5.heap.size, 1, none⟩ = false := newF hB6
 clear hB6 hT5
 go_wp2_with fail
 have A0 : ((w6.setCell ⟨w4.heap.size, 0, none⟩ (.int .i64 u)).setCell ⟨w4.heap.size, 1, none⟩ (.int .i64 v)).cell? ⟨w.heap.size, 0, none⟩ = some (.int .i64 a) := by go_simp
 have A1 : ((w6.setCell ⟨w4.heap.size, 0, none⟩ (.int .i64 u)).setCell ⟨w4.heap.size, 1, none⟩ (.int .i64 v)).cell? ⟨w.heap.size, 1, none⟩ = some (.int .i64 b) := by go_simp
 have B0 : ((w6.setCell ⟨w4.heap.size, 0, none⟩ (.int .i64 u)).setCell ⟨w4.heap.size, 1, none⟩ (.int .i64 v)).cell? ⟨w.heap.size + 1, 0, none⟩ = some (.int .i64 c) := by go_simp
 have B1 : ((w6.setCell ⟨w4.heap.size, 0, none⟩ (.int .i64 u)).setCell ⟨w4.heap.size, 1, none⟩ (.int .i64 v)).cell? ⟨w.heap.size + 1, 1, none⟩ = some (.int .i64 d) := by go_simp
 have X0 : ((w6.setCell ⟨w4.heap.size, 0, none⟩ (.int .i64 u)).setCell ⟨w4.heap.size, 1, none⟩ (.int .i64 v)).cell? ⟨w4.heap.size, 0, none⟩ = some (.int .i64 u) := by go_simp
 have X1 : ((w6.setCell ⟨w4.heap.size, 0, none⟩ (.int .i64 u)).setCell ⟨w4.heap.size, 1, none⟩ (.int .i64 v)).cell? ⟨w4.heap.size, 1, none⟩ = some (.int .i64 v) := by go_simp
 have Z0 : ((w6.setCell ⟨w4.heap.size, 0, none⟩ (.int .i64 u)).setCell ⟨w4.heap.size, 1, none⟩ (.int .i64 v)).cell? ⟨w5.heap.size, 0, none⟩ = some (.int .i64 x) := by go_simp
 have Z1 : ((w6.setCell ⟨w4.heap.size, 0, none⟩ (.int .i64 u)).setCell ⟨w4.heap.size, 1, none⟩ (.int .i64 v)).cell? ⟨w5.heap.size, 1, none⟩ = some (.int .i64 y) := by go_simp
 have FZ0 : ((w6.setCell ⟨w4.heap.size, 0, none⟩ (.int .i64 u)).setCell ⟨w4.heap.size, 1, none⟩ (.int .i64 v)).frozen? ⟨w5.heap.size, 0, none⟩ = false := by go_simp
 have FZ1 : ((w6.setCell ⟨w4.heap.size, 0, none⟩ (.int .i64 u)).setCell ⟨w4.heap.size, 1, none⟩ (.int .i64 v)).frozen? ⟨w5.heap.size, 1, none⟩ = false := by go_simp
 have TW : Below w.heap.size w ((w6.setCell ⟨w4.heap.size, 0, none⟩ (.int .i64 u)).setCell ⟨w4.heap.size, 1, none⟩ (.int .i64 v)) := (hT6.setCell (by simp; omega) _).setCell (by simp; omega) _
 have SW : ((w6.setCell ⟨w4.heap.size, 0, none⟩ (.int .i64 u)).setCell ⟨w4.heap.size, 1, none⟩ (.int .i64 v)).heap.size = w6.heap.size := by simp [World.setCell]
 generalize ((w6.setCell ⟨w4.heap.size, 0, none⟩ (.int .i64 u)).setCell ⟨w4.heap.size, 1, none⟩ (.int .i64 v)) = V at *
 have hzV : w5.heap.size < V.heap.size := by omega
 have hzV4 : w4.heap.size < V.heap.size := by omega
 have hzV1 : w.heap.size + 1 < V.heap.size := by omega
 clear SW a0 a1 b0 b1 x0 x1 fx0 fx1 z0 z1 fz0 fz1 hT6
 generalize w4.heap.size = n4 at *
 generalize w5.heap.size = n5 at *
 refine (hn _).mono ?_
 rintro e7 w7 ⟨rfl, hB7⟩
 have hz8 : w.heap.size < w7.heap.size := by have := hB7.size; omega
 have hT7 : Below w.heap.size w w7 := TW.trans (hB7.mono (by omega))
 replace X0 := cell_later hB7 X0
 replace X1 := cell_later hB7 X1
 replace Z0 := cell_later hB7 Z0
 replace Z1 := cell_later hB7 Z1
 replace FZ0 : w7.frozen? ⟨n5, 0, none⟩ = false := (hB7.frozen (p := ⟨n5, 0, none⟩) hzV).trans FZ0
 replace FZ1 : w7.frozen? ⟨n5, 1, none⟩ = false := (hB7.frozen (p := ⟨n5, 1, none⟩) hzV).trans FZ1
 clear hB7 TW A0 A1 B0 B1
 go_wp2
 go_ret
 exact ⟨rfl, (hT7.setCell (by simp; omega) _).setCell (by simp; omega) _⟩
end Go.Proofs.Ytgkhldbnljdeiaa
