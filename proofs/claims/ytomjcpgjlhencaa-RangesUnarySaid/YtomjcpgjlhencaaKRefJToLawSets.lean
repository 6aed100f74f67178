/- RefJ, RefQ, RefR, UnaryMath, LawSets. -/
import Derived.Test.YtomjcpgjlhencaaKRefIToRangesD
import Derived.Test.YtomjcpgjlhencaaKRefP5
import Derived.Test.YtomjcpgjlhencaaKLawDone3ToLawAssume
import Derived.Deep.RegionHeld3
import Derived.Test.YtomjcpgjlhencaaKRefB
import Derived.Test.YtomjcpgjlhencaaKShown
set_option linter.unusedSimpArgs false
set_option linter.unusedVariables false
/- The contract of the reference function Assume of layer 4, for all arguments. -/
namespace Go.Proofs.Ytomjcpgjlhencaa
open Go.RowKit
attribute [local go_sem] World.setCell_self

theorem check_ok64 {k a b : Int} (h : checkErr k a b = 0) : Ok64 a b := by
  unfold checkErr at h
  split at h
  · rename_i g
    obtain ⟨g1, g2, g3, g4⟩ := g
    unfold fullErr at g1
    unfold fullLow at g3
    unfold fullHigh at g4
    refine ⟨g2, ?_, ?_⟩
    · split at g3 <;> omega
    · split at g4
      · omega
      · split at g4
        · omega
        · split at g4 <;> omega
  · omega

def assOK (op k a b c d : Int) : Bool := decide (11 ≤ op ∧ op ≤ 16) && fits2 op k && decide (checkErr k a b = 0) && decide (checkErr k c d = 0)
def assS (op a b c d : Int) (r : Bool) : Two := let t := leftS (if r then op else oppS op) a b c d; if t.p then t else ⟨0, 0, 0, 0, false⟩
def assV (t : Two) (e : Int) : Value := .tuple #[.agg #[.int .i64 t.x0, .int .i64 t.x1], .agg #[.int .i64 t.y0, .int .i64 t.y1], .bool t.p, .int .i64 e]
def assR (op k a b c d : Int) (r : Bool) : Value := if assOK op k a b c d then assV (assS op a b c d r) 0 else assV ⟨0, 0, 0, 0, false⟩ 2

/-- Assume says no: whatever test it was that failed. -/
def SaysNo (op k a b c d : Int) (r : Bool) (w : World) : Prop := Calls Try.prog 26 #[.int .i64 op, .int .i64 k, .agg #[.int .i64 a, .int .i64 b], .agg #[.int .i64 c, .int .i64 d], .bool r] w fun e w' => e = .returned (.tuple #[.agg #[.int .i64 0, .int .i64 0], .agg #[.int .i64 0, .int .i64 0], .bool false, .int .i64 2]) ∧ Below w.heap.size w w'

def Fresh4 (w : World) (a b c d : Int) : World := (((w.alloc (.cells #[.int .i64 a, .int .i64 b] 23)).alloc (.cells #[.int .i64 c, .int .i64 d] 23)).alloc (.cells #[.int .i64 0, .int .i64 0] 23)).alloc (.cells #[.int .i64 0, .int .i64 0] 23)
theorem fresh4 (w : World) (a b c d : Int) : In w (Fresh4 w a b c d) a b c d 0 0 0 0 := by
  unfold Fresh4
  exact ⟨by go_simp, by go_simp, by go_simp, by go_simp, by go_simp, by go_simp, by go_simp, by go_simp, by go_simp, by go_simp, by go_simp, by go_simp, by simp, (((Below.refl _ _).alloc (Nat.le_refl _) _).alloc (by simp) _).alloc (by simp; omega) _ |>.alloc (by simp; omega) _⟩

set_option maxRecDepth 100000 in
set_option maxHeartbeats 1000000 in
theorem assume_op (op k a b c d : Int) (r : Bool) (w : World) (h : op < 11 ∨ 16 < op) : SaysNo op k a b c d r w := by
  unfold SaysNo
  rcases h with h | h
  all_goals
    go_enter Try.func26, Try.ntmps26
    go_wp2_with fail
    refine bodyPost_ret (v := .tuple #[.agg #[.int .i64 0, .int .i64 0], .agg #[.int .i64 0, .int .i64 0], .bool false, .int .i64 2]) (by simp [results, Try.results26, go_sem]) rfl ⟨rfl, ?_⟩
    exact ((((Below.refl _ _).alloc (Nat.le_refl _) _).alloc (by simp) _).alloc (by simp; omega) _).alloc (by simp; omega) _

set_option maxRecDepth 100000 in
set_option maxHeartbeats 1000000 in
theorem assume_fits (op k a b c d : Int) (r : Bool) (w : World) (h1 : 11 ≤ op) (h2 : op ≤ 16) (hf : fits2 op k = false) : SaysNo op k a b c d r w := by
  unfold SaysNo
  have F := fun w => Lib.hid (fits2_any op k w)
  rw [hf] at F
  clear hf
  go_enter Try.func26, Try.ntmps26
  go_wp2_with fail
  refine (F _).out.mono ?_
  rintro e w1 ⟨rfl, rfl⟩
  go_wp2_with fail
  refine bodyPost_ret (v := .tuple #[.agg #[.int .i64 0, .int .i64 0], .agg #[.int .i64 0, .int .i64 0], .bool false, .int .i64 2]) (by simp [results, Try.results26, go_sem]) rfl ⟨rfl, ?_⟩
  exact ((((Below.refl _ _).alloc (Nat.le_refl _) _).alloc (by simp) _).alloc (by simp; omega) _).alloc (by simp; omega) _

set_option maxRecDepth 100000 in
set_option maxHeartbeats 1000000 in
theorem assume_check1 (op k a b c d : Int) (r : Bool) (w : World) (h1 : 11 ≤ op) (h2 : op ≤ 16) (hf : fits2 op k = true) (hc : (checkErr k a b != 0) = true) : SaysNo op k a b c d r w := by
  unfold SaysNo
  have F := fun w => Lib.hid (fits2_any op k w)
  rw [hf] at F
  clear hf
  have C1 := fun w => Lib.hid (check_any k a b w)
  generalize checkErr k a b = ce at *
  go_enter Try.func26, Try.ntmps26
  go_wp2_with fail
  refine (F _).out.mono ?_
  rintro e w1 ⟨rfl, rfl⟩
  go_wp2_with fail
  refine (C1 _).out.mono ?_
  rintro e w2 ⟨rfl, hB2⟩
  have I2 := (fresh4 w a b c d).later hB2
  clear hB2
  obtain ⟨a0, a1, b0, b1, c0, c1, d0, d1, f0, f1, g0, g1, sz, bl⟩ := I2
  go_wp2_with fail
  refine bodyPost_ret (v := .tuple #[.agg #[.int .i64 0, .int .i64 0], .agg #[.int .i64 0, .int .i64 0], .bool false, .int .i64 2]) (by simp [results, Try.results26, go_sem, *]) rfl ⟨rfl, bl⟩

set_option maxRecDepth 100000 in
set_option maxHeartbeats 1000000 in
theorem assume_check2 (op k a b c d : Int) (r : Bool) (w : World) (h1 : 11 ≤ op) (h2 : op ≤ 16) (hf : fits2 op k = true) (hc : checkErr k a b = 0) (hd : (checkErr k c d != 0) = true) : SaysNo op k a b c d r w := by
  unfold SaysNo
  have F := fun w => Lib.hid (fits2_any op k w)
  rw [hf] at F
  clear hf
  have C1 := fun w => Lib.hid (check_any k a b w)
  rw [hc] at C1
  have C2 := fun w => Lib.hid (check_any k c d w)
  clear hc
  generalize checkErr k c d = ce at *
  go_enter Try.func26, Try.ntmps26
  go_wp2_with fail
  refine (F _).out.mono ?_
  rintro e w1 ⟨rfl, rfl⟩
  go_wp2_with fail
  refine (C1 _).out.mono ?_
  rintro e w2 ⟨rfl, hB2⟩
  have I2 := (fresh4 w a b c d).later hB2
  clear hB2
  obtain ⟨a0, a1, b0, b1, c0, c1, d0, d1, f0, f1, g0, g1, sz, bl⟩ := id I2
  have J2 := Lib.hid I2
  clear I2 bl
  go_wp2_with fail
  refine (C2 _).out.mono ?_
  clear a0 a1 b0 b1 c0 c1 d0 d1 f0 f1 g0 g1 sz
  rintro e w3 ⟨rfl, hB3⟩
  have I3 := J2.out.later hB3
  clear hB3 J2
  obtain ⟨a0, a1, b0, b1, c0, c1, d0, d1, f0, f1, g0, g1, sz, bl⟩ := I3
  go_wp2_with fail
  refine bodyPost_ret (v := .tuple #[.agg #[.int .i64 0, .int .i64 0], .agg #[.int .i64 0, .int .i64 0], .bool false, .int .i64 2]) (by simp [results, Try.results26, go_sem, *]) rfl ⟨rfl, bl⟩

end Go.Proofs.Ytomjcpgjlhencaa

/- The contracts of the reference functions ToSmall and Unary of layer 4, for all arguments. -/
namespace Go.Proofs.Ytomjcpgjlhencaa
open Go.RowKit
attribute [local go_sem] World.setCell_self

/-- One range that came in, and the result's range. -/
structure OneIn (w wx : World) (a b : Int) : Prop where
  a0 : wx.cell? ⟨w.heap.size, 0, none⟩ = some (.int .i64 a)
  a1 : wx.cell? ⟨w.heap.size, 1, none⟩ = some (.int .i64 b)
  r0 : wx.cell? ⟨w.heap.size + 1, 0, none⟩ = some (.int .i64 0)
  r1 : wx.cell? ⟨w.heap.size + 1, 1, none⟩ = some (.int .i64 0)
  f0 : wx.frozen? ⟨w.heap.size + 1, 0, none⟩ = false
  f1 : wx.frozen? ⟨w.heap.size + 1, 1, none⟩ = false
  s0 : w.heap.size < wx.heap.size
  s1 : w.heap.size + 1 < wx.heap.size
  bl : Below w.heap.size w wx

theorem OneIn.later {w wx wy : World} {a b : Int} (h : OneIn w wx a b) (hb : Below wx.heap.size wx wy) : OneIn w wy a b :=
  ⟨cell_later hb h.a0, cell_later hb h.a1, cell_later hb h.r0, cell_later hb h.r1, keepFr hb h.s1 h.f0, keepFr hb h.s1 h.f1, Nat.lt_of_lt_of_le h.s0 hb.size, Nat.lt_of_lt_of_le h.s1 hb.size, h.bl.trans (hb.mono (Nat.le_of_lt h.s0))⟩
theorem oneIn (w : World) (a b : Int) : OneIn w ((w.alloc (.cells #[.int .i64 a, .int .i64 b] 23)).alloc (.cells #[.int .i64 0, .int .i64 0] 23)) a b :=
  ⟨by go_simp, by go_simp, by go_simp, by go_simp, by go_simp, by go_simp, by (simp; try omega), by (simp; try omega), ((Below.refl _ _).alloc (Nat.le_refl _) _).alloc (by simp) _⟩

def RangeE (x y e : Int) : Value := .tuple #[.agg #[.int .i64 x, .int .i64 y], .int .i64 e]

set_option maxRecDepth 100000 in
set_option maxHeartbeats 1000000 in
theorem toSmall_no (a b : Int) (w : World) (h : (checkErr 1 a b != 0) = true) :
    Calls Try.prog 24 #[.agg #[.int .i64 a, .int .i64 b]] w fun e w' => e = .returned (.tuple #[.agg #[.int .i64 0, .int .i64 0], .int .i64 2]) ∧ Below w.heap.size w w' := by
  have C := fun w => Lib.hid (check_any 1 a b w)
  generalize checkErr 1 a b = ce at *
  go_enter Try.func24, Try.ntmps24
  go_wp2_with fail
  refine (C _).out.mono ?_
  rintro e w1 ⟨rfl, hB⟩
  have I := (oneIn w a b).later hB
  clear hB
  obtain ⟨a0, a1, r0, r1, f0, f1, s0, s1, bl⟩ := I
  go_wp2
  refine bodyPost_ret (v := .tuple #[.agg #[.int .i64 0, .int .i64 0], .int .i64 2]) (by simp [results, Try.results24, go_sem, *]) rfl ⟨rfl, bl⟩

set_option maxRecDepth 100000 in
set_option maxHeartbeats 1000000 in
theorem toSmall_yes (a b x y : Int) (w : World) (h : checkErr 1 a b = 0) (hB : ∀ w, Hid (Calls Try.prog 35 #[.agg #[.int .i64 a, .int .i64 b, .bool false], .int .i64 2] w fun e w' => e = .returned (.agg #[.int .i64 x, .int .i64 y]) ∧ Below w.heap.size w w')) :
    Calls Try.prog 24 #[.agg #[.int .i64 a, .int .i64 b]] w fun e w' => e = .returned (.tuple #[.agg #[.int .i64 x, .int .i64 y], .int .i64 0]) ∧ Below w.heap.size w w' := by
  have C := fun w => Lib.hid (check_any 1 a b w)
  rw [h] at C
  clear h
  go_enter Try.func24, Try.ntmps24
  go_wp2_with fail
  refine (C _).out.mono ?_
  rintro e w1 ⟨rfl, hB1⟩
  have J := Lib.hid ((oneIn w a b).later hB1)
  clear hB1
  obtain ⟨a0, a1, r0, r1, f0, f1, s0, s1, bl⟩ := J.out
  go_wp2_with fail
  refine (hB _).out.mono ?_
  clear a0 a1 r0 r1 f0 f1 s0 s1 bl
  rintro e w2 ⟨rfl, hB2⟩
  obtain ⟨a0, a1, r0, r1, f0, f1, s0, s1, bl⟩ := J.out.later hB2
  clear hB2
  go_wp2
  refine bodyPost_ret (v := .tuple #[.agg #[.int .i64 x, .int .i64 y], .int .i64 0]) (by simp [results, Try.results24, go_sem, *]) rfl ⟨rfl, (bl.setCell (by simp) _).setCell (by simp) _⟩

def toSmallS (a b : Int) : Int × Int × Int := if checkErr 1 a b = 0 then ((broughtS a b false 2).1, (broughtS a b false 2).2, 0) else (0, 0, 2)
theorem toSmall_any (a b : Int) (w : World) :
    Calls Try.prog 24 #[.agg #[.int .i64 a, .int .i64 b]] w fun e w' => e = .returned (.tuple #[.agg #[.int .i64 (toSmallS a b).1, .int .i64 (toSmallS a b).2.1], .int .i64 (toSmallS a b).2.2]) ∧ Below w.heap.size w w' := by
  unfold toSmallS
  by_cases h : checkErr 1 a b = 0
  · rw [if_pos h]; exact toSmall_yes a b _ _ w h (fun w => Lib.hid (brought_any a b 2 false w))
  · rw [if_neg h]; exact toSmall_no a b w (by simpa using h)

set_option maxRecDepth 100000 in
set_option maxHeartbeats 1000000 in
theorem unary_fits (op k a b : Int) (w : World) (hf : fits1 op k = false) :
    Calls Try.prog 20 #[.int .i64 op, .int .i64 k, .agg #[.int .i64 a, .int .i64 b]] w fun e w' => e = .returned (.tuple #[.agg #[.int .i64 0, .int .i64 0], .int .i64 2]) ∧ Below w.heap.size w w' := by
  have F := fun w => Lib.hid (fits1_any op k w)
  rw [hf] at F
  clear hf
  go_enter Try.func20, Try.ntmps20
  go_wp2_with fail
  refine (F _).out.mono ?_
  rintro e w1 ⟨rfl, rfl⟩
  go_wp2_with fail
  refine bodyPost_ret (v := .tuple #[.agg #[.int .i64 0, .int .i64 0], .int .i64 2]) (by simp [results, Try.results20, go_sem]) rfl ⟨rfl, ((Below.refl _ _).alloc (Nat.le_refl _) _).alloc (by simp) _⟩

set_option maxRecDepth 100000 in
set_option maxHeartbeats 1000000 in
theorem unary_check (op k a b : Int) (w : World) (hf : fits1 op k = true) (hc : (checkErr k a b != 0) = true) :
    Calls Try.prog 20 #[.int .i64 op, .int .i64 k, .agg #[.int .i64 a, .int .i64 b]] w fun e w' => e = .returned (.tuple #[.agg #[.int .i64 0, .int .i64 0], .int .i64 2]) ∧ Below w.heap.size w w' := by
  have F := fun w => Lib.hid (fits1_any op k w)
  rw [hf] at F
  clear hf
  have C := fun w => Lib.hid (check_any k a b w)
  generalize checkErr k a b = ce at *
  go_enter Try.func20, Try.ntmps20
  go_wp2_with fail
  refine (F _).out.mono ?_
  rintro e w1 ⟨rfl, rfl⟩
  go_wp2_with fail
  refine (C _).out.mono ?_
  rintro e w1 ⟨rfl, hB⟩
  obtain ⟨a0, a1, r0, r1, f0, f1, s0, s1, bl⟩ := (oneIn w a b).later hB
  clear hB
  go_wp2
  refine bodyPost_ret (v := .tuple #[.agg #[.int .i64 0, .int .i64 0], .int .i64 2]) (by simp [results, Try.results20, go_sem, *]) rfl ⟨rfl, bl⟩

set_option maxRecDepth 100000 in
set_option maxHeartbeats 1000000 in
theorem unary_neg (k a b lo hi x y : Int) (o : Bool) (w : World) (hf : fits1 1 k = true) (hc : checkErr k a b = 0)
    (hS : ∀ w, Hid (Calls Try.prog 36 #[.int .i64 5, .agg #[.int .i64 0, .int .i64 0], .agg #[.int .i64 a, .int .i64 b]] w fun e w' => e = .returned (.agg #[.int .i64 lo, .int .i64 hi, .bool o]) ∧ Below w.heap.size w w'))
    (hB : ∀ w, Hid (Calls Try.prog 35 #[.agg #[.int .i64 lo, .int .i64 hi, .bool o], .int .i64 k] w fun e w' => e = .returned (.agg #[.int .i64 x, .int .i64 y]) ∧ Below w.heap.size w w')) :
    Calls Try.prog 20 #[.int .i64 1, .int .i64 k, .agg #[.int .i64 a, .int .i64 b]] w fun e w' => e = .returned (.tuple #[.agg #[.int .i64 x, .int .i64 y], .int .i64 0]) ∧ Below w.heap.size w w' := by
  have F := fun w => Lib.hid (fits1_any 1 k w)
  rw [hf] at F
  have C := fun w => Lib.hid (check_any k a b w)
  rw [hc] at C
  clear hf hc
  go_enter Try.func20, Try.ntmps20
  go_wp2_with fail
  refine (F _).out.mono ?_
  rintro e w1 ⟨rfl, rfl⟩
  go_wp2_with fail
  refine (C _).out.mono ?_
  rintro e w1 ⟨rfl, hB1⟩
  have J := Lib.hid ((oneIn w a b).later hB1)
  clear hB1
  obtain ⟨a0, a1, r0, r1, f0, f1, s0, s1, bl⟩ := J.out
  go_wp2_with fail
  refine (hS _).out.mono ?_
  clear a0 a1 r0 r1 f0 f1 s0 s1 bl
  rintro e w2 ⟨rfl, hB2⟩
  have J2 := Lib.hid (J.out.later hB2)
  clear hB2 J
  obtain ⟨a0, a1, r0, r1, f0, f1, s0, s1, bl⟩ := J2.out
  go_wp2_with fail
  refine (hB _).out.mono ?_
  clear a0 a1 r0 r1 f0 f1 s0 s1 bl
  rintro e w3 ⟨rfl, hB3⟩
  obtain ⟨a0, a1, r0, r1, f0, f1, s0, s1, bl⟩ := J2.out.later hB3
  clear hB3
  go_wp2
  refine bodyPost_ret (v := .tuple #[.agg #[.int .i64 x, .int .i64 y], .int .i64 0]) (by simp [results, Try.results20, go_sem, *]) rfl ⟨rfl, (bl.setCell (by simp) _).setCell (by simp) _⟩

end Go.Proofs.Ytomjcpgjlhencaa

/- The contract of the reference function Unary of layer 4, the rest and the whole. -/
namespace Go.Proofs.Ytomjcpgjlhencaa
open Go.RowKit
attribute [local go_sem] World.setCell_self

theorem check_small {a b : Int} (h : checkErr 2 a b = 0) : 0 ≤ a ∧ a ≤ b ∧ b ≤ 255 := by
  unfold checkErr at h
  split at h
  · rename_i g; simp [fullErr, fullLow, fullHigh] at g; omega
  · omega
theorem check_bool {a b : Int} (h : checkErr 3 a b = 0) : 0 ≤ a ∧ a ≤ b ∧ b ≤ 1 := by
  unfold checkErr at h
  split at h
  · rename_i g; simp [fullErr, fullLow, fullHigh] at g; omega
  · omega

set_option maxRecDepth 100000 in
set_option maxHeartbeats 1000000 in
theorem unary_not (a b : Int) (w : World) (hc : checkErr 3 a b = 0) :
    Calls Try.prog 20 #[.int .i64 2, .int .i64 3, .agg #[.int .i64 a, .int .i64 b]] w fun e w' => e = .returned (.tuple #[.agg #[.int .i64 (1 - b), .int .i64 (1 - a)], .int .i64 0]) ∧ Below w.heap.size w w' := by
  have F := fun w => Lib.hid (fits1_any 2 3 w)
  rw [show fits1 2 3 = true from rfl] at F
  have C := fun w => Lib.hid (check_any 3 a b w)
  rw [hc] at C
  obtain ⟨b0, b1, b2⟩ := check_bool hc
  clear hc
  go_enter Try.func20, Try.ntmps20
  go_wp2_with fail
  refine (F _).out.mono ?_
  rintro e w1 ⟨rfl, rfl⟩
  go_wp2_with fail
  refine (C _).out.mono ?_
  rintro e w1 ⟨rfl, hB1⟩
  obtain ⟨a0, a1, r0, r1, f0, f1, s0, s1, bl⟩ := (oneIn w a b).later hB1
  clear hB1
  go_wp2
  refine bodyPost_ret (v := .tuple #[.agg #[.int .i64 (1 - b), .int .i64 (1 - a)], .int .i64 0]) (by simp [results, Try.results20, go_sem, *]) rfl ⟨rfl, (bl.setCell (by simp) _).setCell (by simp) _⟩

set_option maxRecDepth 100000 in
set_option maxHeartbeats 1000000 in
theorem unary_comp_small (a b : Int) (w : World) (hc : checkErr 2 a b = 0) :
    Calls Try.prog 20 #[.int .i64 3, .int .i64 2, .agg #[.int .i64 a, .int .i64 b]] w fun e w' => e = .returned (.tuple #[.agg #[.int .i64 (255 - b), .int .i64 (255 - a)], .int .i64 0]) ∧ Below w.heap.size w w' := by
  have F := fun w => Lib.hid (fits1_any 3 2 w)
  rw [show fits1 3 2 = true from rfl] at F
  have C := fun w => Lib.hid (check_any 2 a b w)
  rw [hc] at C
  obtain ⟨b0, b1, b2⟩ := check_small hc
  clear hc
  go_enter Try.func20, Try.ntmps20
  go_wp2_with fail
  refine (F _).out.mono ?_
  rintro e w1 ⟨rfl, rfl⟩
  go_wp2_with fail
  refine (C _).out.mono ?_
  rintro e w1 ⟨rfl, hB1⟩
  obtain ⟨a0, a1, r0, r1, f0, f1, s0, s1, bl⟩ := (oneIn w a b).later hB1
  clear hB1
  go_wp2
  refine bodyPost_ret (v := .tuple #[.agg #[.int .i64 (255 - b), .int .i64 (255 - a)], .int .i64 0]) (by simp [results, Try.results20, go_sem, *]) rfl ⟨rfl, (bl.setCell (by simp) _).setCell (by simp) _⟩

set_option maxRecDepth 100000 in
set_option maxHeartbeats 1000000 in
theorem unary_comp_int (a b : Int) (w : World) (hc : checkErr 1 a b = 0) :
    Calls Try.prog 20 #[.int .i64 3, .int .i64 1, .agg #[.int .i64 a, .int .i64 b]] w fun e w' => e = .returned (.tuple #[.agg #[.int .i64 (-1 - b), .int .i64 (-1 - a)], .int .i64 0]) ∧ Below w.heap.size w w' := by
  have F := fun w => Lib.hid (fits1_any 3 1 w)
  rw [show fits1 3 1 = true from rfl] at F
  have C := fun w => Lib.hid (check_any 1 a b w)
  rw [hc] at C
  obtain ⟨b0, b1, b2⟩ := check_ok64 hc
  clear hc
  go_enter Try.func20, Try.ntmps20
  go_wp2_with fail
  refine (F _).out.mono ?_
  rintro e w1 ⟨rfl, rfl⟩
  go_wp2_with fail
  refine (C _).out.mono ?_
  rintro e w1 ⟨rfl, hB1⟩
  obtain ⟨a0, a1, r0, r1, f0, f1, s0, s1, bl⟩ := (oneIn w a b).later hB1
  clear hB1
  go_wp2
  refine bodyPost_ret (v := .tuple #[.agg #[.int .i64 (-1 - b), .int .i64 (-1 - a)], .int .i64 0]) (by simp [results, Try.results20, go_sem, *]) rfl ⟨rfl, (bl.setCell (by simp) _).setCell (by simp) _⟩

/-- What Unary makes of a range: its ends and the error. -/
def unaryS (op k a b : Int) : Int × Int × Int :=
  if fits1 op k = true ∧ checkErr k a b = 0 then
    if op = 1 then
      let s := broughtS (min (min (min (wrap64 (0 - a)) (wrap64 (0 - b))) (wrap64 (0 - a))) (wrap64 (0 - b))) (max (max (max (wrap64 (0 - a)) (wrap64 (0 - b))) (wrap64 (0 - a))) (wrap64 (0 - b))) (((out64 (0 - a) || out64 (0 - b)) || out64 (0 - a)) || out64 (0 - b)) k
      (s.1, s.2, 0)
    else if op = 2 then (1 - b, 1 - a, 0)
    else if k = 2 then (255 - b, 255 - a, 0)
    else (-1 - b, -1 - a, 0)
  else (0, 0, 2)

theorem unary_any (op k a b : Int) (w : World) :
    Calls Try.prog 20 #[.int .i64 op, .int .i64 k, .agg #[.int .i64 a, .int .i64 b]] w fun e w' => e = .returned (.tuple #[.agg #[.int .i64 (unaryS op k a b).1, .int .i64 (unaryS op k a b).2.1], .int .i64 (unaryS op k a b).2.2]) ∧ Below w.heap.size w w' := by
  unfold unaryS
  by_cases h : fits1 op k = true ∧ checkErr k a b = 0
  · rw [if_pos h]
    obtain ⟨hf, hc⟩ := h
    have h64 := check_ok64 hc
    have ha : In64 a := ⟨h64.lo, by have := h64.le; have := h64.hi; omega⟩
    have hb : In64 b := ⟨by have := h64.le; have := h64.lo; omega, h64.hi⟩
    have hz : In64 0 := ⟨by omega, by omega⟩
    have hf' := hf
    simp only [fits1, decide_eq_true_eq] at hf'
    by_cases h1 : op = 1
    · subst h1
      rw [if_pos rfl]
      refine unary_neg k a b _ _ _ _ _ w hf hc (fun w => Lib.hid (corners_sub 0 0 a b w _ _ _ _ _ _ _ _ ?_ ?_ ?_ ?_)) (fun w => Lib.hid (brought_any _ _ k _ w))
      · exact fun w => Lib.hid ((difference_any 0 a w hz ha).mono fun _ _ ⟨he, hw⟩ => ⟨he, hw ▸ Below.refl _ _⟩)
      · exact fun w => Lib.hid ((difference_any 0 b w hz hb).mono fun _ _ ⟨he, hw⟩ => ⟨he, hw ▸ Below.refl _ _⟩)
      · exact fun w => Lib.hid ((difference_any 0 a w hz ha).mono fun _ _ ⟨he, hw⟩ => ⟨he, hw ▸ Below.refl _ _⟩)
      · exact fun w => Lib.hid ((difference_any 0 b w hz hb).mono fun _ _ ⟨he, hw⟩ => ⟨he, hw ▸ Below.refl _ _⟩)
    · rw [if_neg h1]
      by_cases h2 : op = 2
      · have hk : k = 3 := by omega
        subst h2; subst hk
        exact unary_not a b w hc
      · rw [if_neg h2]
        have h3 : op = 3 := by omega
        subst h3
        by_cases hk : k = 2
        · subst hk; exact unary_comp_small a b w hc
        · have hk1 : k = 1 := by omega
          subst hk1; exact unary_comp_int a b w hc
  · rw [if_neg h]
    cases hf : fits1 op k
    · exact unary_fits op k a b w hf
    · exact unary_check op k a b w hf (by simp; exact fun hc => h ⟨hf, hc⟩)

end Go.Proofs.Ytomjcpgjlhencaa

/- The plain arithmetic of the law RangesUnary: what Unary and ToSmall make of a range holds what they make of its values. -/
namespace Go.Proofs.Ytomjcpgjlhencaa
open Go.RowKit RangesMath

theorem xor_ones (v : Int) (h1 : -9223372036854775808 ≤ v) (h2 : v ≤ 9223372036854775807) : bits .xor .i64 (-1) v = -1 - v := by
  show IntKind.i64.wrap ((BitVec.ofInt 64 (-1) ^^^ BitVec.ofInt 64 v).toNat : Int) = _
  have e : BitVec.ofInt 64 (-1) = BitVec.allOnes 64 := by decide
  rw [e, BitVec.allOnes_xor, BitVec.toNat_not, BitVec.toNat_ofInt, IntKind.wrap_i64]
  omega

theorem broughtS_fin (l h k : Int) (o : Bool) (ho : o = (RangesMath.out64 l || RangesMath.out64 h)) : broughtS l h o k = fin l h k := by
  subst ho
  unfold broughtS fin
  by_cases h1 : (RangesMath.out64 l || RangesMath.out64 h) = true
  · rw [if_pos h1, if_pos h1]; rfl
  · rw [if_neg h1, if_neg h1]
    by_cases h2 : k = 1
    · rw [if_pos h2, if_pos h2]
    · rw [if_neg h2, if_neg h2]
      by_cases h3 : l / 256 = h / 256
      · rw [if_pos h3, if_pos h3]
        unfold low8; rw [low8_eq, low8_eq]
      · rw [if_neg h3, if_neg h3]; rfl

/-- What Unary returns as its error. -/
theorem unaryS_err (op k a b : Int) : (unaryS op k a b).2.2 = 0 ∨ (unaryS op k a b).2.2 = 2 := by
  unfold unaryS
  by_cases h : fits1 op k = true ∧ checkErr k a b = 0
  · rw [if_pos h]; left; (repeat' split) <;> rfl
  · rw [if_neg h]; right; rfl

theorem unaryS_ok (op k a b : Int) (h : (unaryS op k a b).2.2 = 0) : fits1 op k = true ∧ checkErr k a b = 0 := by
  unfold unaryS at h
  by_cases hh : fits1 op k = true ∧ checkErr k a b = 0
  · exact hh
  · rw [if_neg hh] at h; simp at h

theorem check_parts {k a b : Int} (h : checkErr k a b = 0) : (k = 1 ∨ k = 2 ∨ k = 3) ∧ a ≤ b ∧ fullLow k ≤ a ∧ b ≤ fullHigh k := by
  unfold checkErr fullErr at h
  by_cases hk : k = 1 ∨ k = 2 ∨ k = 3
  · rw [if_pos hk] at h
    by_cases hc : (0 : Int) = 0 ∧ a ≤ b ∧ fullLow k ≤ a ∧ b ≤ fullHigh k
    · exact ⟨hk, hc.2⟩
    · rw [if_neg hc] at h; simp at h
  · rw [if_neg hk, if_neg (by simp)] at h; simp at h
theorem check_mk {k a b : Int} (hk : k = 1 ∨ k = 2 ∨ k = 3) (h1 : a ≤ b) (h2 : fullLow k ≤ a) (h3 : b ≤ fullHigh k) : checkErr k a b = 0 := by
  unfold checkErr fullErr; rw [if_pos hk, if_pos ⟨rfl, h1, h2, h3⟩]

/-- What a unary operator makes of a value: the number behind the kind. -/
def unV (op v : Int) : Int := if op = 1 then wrap64 (-v) else if op = 2 then wrap64 (1 - v) else bits .xor .i64 (-1) v

theorem unaryS_neg (k a b : Int) (hf : fits1 1 k = true) (hc : checkErr k a b = 0) : ((unaryS 1 k a b).1, (unaryS 1 k a b).2.1) = fin (0 - b) (0 - a) k := by
  have hp := check_parts hc
  have h64 := check_ok64 hc
  have l1 := h64.lo; have l2 := h64.hi; have l3 := h64.le
  unfold unaryS
  rw [if_pos ⟨hf, hc⟩, if_pos rfl]
  simp only
  by_cases ho : out64 (0 - a) = true
  · -- a is the least number
    have ha : a = -9223372036854775808 := by simp [out64] at ho; omega
    have hr : (out64 (0 - a) || out64 (0 - b) || out64 (0 - a) || out64 (0 - b)) = true := by rw [ho]; simp only [Bool.true_or]
    rw [hr]
    have hf' : (RangesMath.out64 (0 - b) || RangesMath.out64 (0 - a)) = true := by
      have : RangesMath.out64 (0 - a) = true := ho
      rw [this, Bool.or_true]
    unfold fin broughtS
    rw [if_pos hf', if_pos rfl]; rfl
  · have hb : out64 (0 - b) = false := by simp [out64] at ho ⊢; omega
    have ha : out64 (0 - a) = false := by simpa using ho
    rw [ha, hb]
    have w1 : wrap64 (0 - a) = 0 - a := by simp [out64] at ha; exact wrap64_same _ (by omega)
    have w2 : wrap64 (0 - b) = 0 - b := by simp [out64] at hb; exact wrap64_same _ (by omega)
    rw [w1, w2]
    have m1 : min (min (min (0 - a) (0 - b)) (0 - a)) (0 - b) = 0 - b := by omega
    have m2 : max (max (max (0 - a) (0 - b)) (0 - a)) (0 - b) = 0 - a := by omega
    rw [m1, m2]
    have := broughtS_fin (0 - b) (0 - a) k false (by
      have q1 : RangesMath.out64 (0 - b) = false := hb
      have q2 : RangesMath.out64 (0 - a) = false := ha
      rw [q1, q2]; rfl)
    simpa using this

theorem unary_holds (op k a b v : Int) (ho : op = 1 ∨ op = 2 ∨ op = 3) (h : (unaryS op k a b).2.2 = 0) (hv : Ok64 a b → a ≤ v ∧ v ≤ b) :
    checkErr k (unaryS op k a b).1 (unaryS op k a b).2.1 = 0 ∧ (unaryS op k a b).1 ≤ low k (unV op v) ∧ low k (unV op v) ≤ (unaryS op k a b).2.1 := by
  obtain ⟨hf, hc⟩ := unaryS_ok op k a b h
  have hp := check_parts hc
  have h64 := check_ok64 hc
  have l1 := h64.lo; have l2 := h64.hi; have l3 := h64.le
  have hv := hv h64
  have hf' := hf
  simp only [fits1, decide_eq_true_eq] at hf'
  rcases ho with rfl | rfl | rfl
  · have hk : k = 1 ∨ k = 2 := by omega
    have e := unaryS_neg k a b hf hc
    have e1 : (unaryS 1 k a b).1 = (fin (0 - b) (0 - a) k).1 := congrArg Prod.fst e
    have e2 : (unaryS 1 k a b).2.1 = (fin (0 - b) (0 - a) k).2 := congrArg Prod.snd e
    rw [e1, e2]
    have f1 := fin_holds (0 - b) (0 - a) k (-v) hk (by omega) (by omega)
    have f2 := fin_ok (0 - b) (0 - a) k hk (by omega)
    exact ⟨check_mk hp.1 f2.2.1 f2.1 f2.2.2, f1⟩
  · obtain rfl : k = 3 := by omega
    have e : unaryS 2 3 a b = (1 - b, 1 - a, 0) := by unfold unaryS; rw [if_pos ⟨hf, hc⟩]; rfl
    rw [e]
    have q := hp.2
    simp only [fullLow, fullHigh, Int.reduceEq, if_true, if_false] at q
    have hw : unV 2 v = 1 - v := by show wrap64 (1 - v) = _; unfold wrap64; omega
    rw [hw]
    refine ⟨check_mk (by simp) ?_ ?_ ?_, ?_, ?_⟩
    · simp only; omega
    · simp only [fullLow, Int.reduceEq, if_false]; omega
    · simp only [fullHigh, Int.reduceEq, if_true, if_false]; omega
    · show 1 - b ≤ 1 - v; omega
    · show 1 - v ≤ 1 - a; omega
  · have hx : unV 3 v = -1 - v := xor_ones v (by omega) (by omega)
    rw [hx]
    have hk : k = 1 ∨ k = 2 := by omega
    rcases hk with rfl | rfl
    · have e : unaryS 3 1 a b = (-1 - b, -1 - a, 0) := by unfold unaryS; rw [if_pos ⟨hf, hc⟩]; rfl
      rw [e]
      refine ⟨check_mk (by simp) ?_ ?_ ?_, ?_, ?_⟩
      · simp only; omega
      · simp only [fullLow, if_true]; omega
      · simp only [fullHigh, if_true]; omega
      · show -1 - b ≤ -1 - v; omega
      · show -1 - v ≤ -1 - a; omega
    · have e : unaryS 3 2 a b = (255 - b, 255 - a, 0) := by unfold unaryS; rw [if_pos ⟨hf, hc⟩]; rfl
      rw [e]
      have q := hp.2
      simp only [fullLow, fullHigh, Int.reduceEq, if_true, if_false] at q
      have hw : low 2 (-1 - v) = 255 - v := by show (-1 - v) % 256 = _; omega
      rw [hw]
      refine ⟨check_mk (by simp) ?_ ?_ ?_, ?_, ?_⟩
      · simp only; omega
      · simp only [fullLow, Int.reduceEq, if_false]; omega
      · simp only [fullHigh, Int.reduceEq, if_true, if_false]; omega
      · show 255 - b ≤ 255 - v; omega
      · show 255 - v ≤ 255 - a; omega

theorem toSmall_holds (a b v : Int) (h : (toSmallS a b).2.2 = 0) (hv : Ok64 a b → a ≤ v ∧ v ≤ b) :
    (toSmallS a b).1 ≤ bits .and .i64 v 255 ∧ bits .and .i64 v 255 ≤ (toSmallS a b).2.1 ∧ 0 ≤ (toSmallS a b).1 ∧ (toSmallS a b).2.1 ≤ 255 := by
  unfold toSmallS at *
  by_cases hc : checkErr 1 a b = 0
  · rw [if_pos hc]
    have h64 := check_ok64 hc
    have l1 := h64.lo; have l2 := h64.hi; have l3 := h64.le
    have hv := hv h64
    have e := broughtS_fin a b 2 false (by simp [RangesMath.out64]; omega)
    rw [e]
    have f1 := fin_holds a b 2 v (by simp) hv.1 hv.2
    have f2 := fin_ok a b 2 (by simp) (by omega)
    have w : wrap64 v = v := wrap64_same _ (by omega)
    rw [w] at f1
    have e2 : low 2 v = bits .and .i64 v 255 := low_sml rfl v
    rw [e2] at f1
    simp only [RangesMath.fullLow, RangesMath.fullHigh, Int.reduceEq, if_true, if_false] at f2
    exact ⟨f1.1, f1.2, f2.1, f2.2.2⟩
  · rw [if_neg hc] at h; simp at h

end Go.Proofs.Ytomjcpgjlhencaa

/- The walk of the law RangesSets, out of the contracts of Full, Check, Join and Meet on both sides and of the examples. -/
namespace Go.Proofs.Ytomjcpgjlhencaa
open Go.RowKit

def ShownOK : Prop := ∀ w : World, Calls Try.prog 10 #[] w fun e w' => e = .returned (.bool true) ∧ Below w.heap.size w w'
def FullOK (f : Nat) : Prop := ∀ (k : Int) (w : World), Calls Try.prog f #[.int .i64 k] w fun e w' => e = .returned (.tuple #[.agg #[.int .i64 (fullLow k), .int .i64 (fullHigh k)], .int .i64 (fullErr k)]) ∧ Below w.heap.size w w'
def CheckOK (f : Nat) : Prop := ∀ (k lo hi : Int) (w : World), Calls Try.prog f #[.int .i64 k, .agg #[.int .i64 lo, .int .i64 hi]] w fun e w' => e = .returned (.int .i64 (checkErr k lo hi)) ∧ Below w.heap.size w w'
/-- A function of two ranges that returns a range and an error. -/
def PairOK (f : Nat) (a b c d x y e : Int) : Prop := ∀ w : World, Calls Try.prog f #[.agg #[.int .i64 a, .int .i64 b], .agg #[.int .i64 c, .int .i64 d]] w fun r w' => r = .returned (.tuple #[.agg #[.int .i64 x, .int .i64 y], .int .i64 e]) ∧ Below w.heap.size w w'
def MeetOK (f : Nat) (a b c d x y : Int) (p : Bool) (e : Int) : Prop := ∀ w : World, Calls Try.prog f #[.agg #[.int .i64 a, .int .i64 b], .agg #[.int .i64 c, .int .i64 d]] w fun r w' => r = .returned (.tuple #[.agg #[.int .i64 x, .int .i64 y], .bool p, .int .i64 e]) ∧ Below w.heap.size w w'

theorem newF {w wx : World} {c : Array Value} {t i : Nat} (hb : Below (w.alloc (.cells c t)).heap.size (w.alloc (.cells c t)) wx) : wx.frozen? ⟨w.heap.size, i, none⟩ = false := by
  rw [hb.frozen (p := ⟨w.heap.size, i, none⟩) (by simp)]
  go_simp
theorem keepF {w wx : World} {o : Obj} {b i : Nat} (hb : Below (w.alloc o).heap.size (w.alloc o) wx) (hl : b < w.heap.size) (h : w.frozen? ⟨b, i, none⟩ = false) : wx.frozen? ⟨b, i, none⟩ = false := by
  rw [hb.frozen (p := ⟨b, i, none⟩) (by simp; omega)]
  go_simp

set_option maxRecDepth 100000 in
set_option maxHeartbeats 1000000 in
theorem sets_of (hs : ShownOK) (hf : FullOK 11) (hg : FullOK 12) (hc : CheckOK 13) (hd : CheckOK 14) (k a b c d x y e u v e' : Int) (p : Bool) (hj : PairOK 15 a b c d x y e) (hi : PairOK 16 a b c d x y e) (hm : MeetOK 17 a b c d u v p e') (hn : MeetOK 18 a b c d u v p e') (w : World) :
    Calls Try.prog 3 #[.int .i64 k, .agg #[.int .i64 a, .int .i64 b], .agg #[.int .i64 c, .int .i64 d]] w fun e w' => e = .returned (.bool true) ∧ Below w.heap.size w w' := by
  have HC := fun w => Lib.hid (hc k a b w)
  have HD := fun w => Lib.hid (hd k a b w)
  clear hc hd
  generalize checkErr k a b = ce at *
  go_enter Try.func3, Try.ntmps3
  go_wp2_with fail
  refine (hs _).mono ?_
  rintro e1 w1 ⟨rfl, hB1⟩
  have hz1 : w.heap.size + 1 < w1.heap.size := by have := hB1.size; simp at this; omega
  have hT1 : Below w.heap.size w w1 := ((((Below.refl _ _).alloc (Nat.le_refl _) _).alloc (by simp) _).trans (hB1.mono (by simp; omega)))
  have a0 : w1.cell? ⟨w.heap.size, 0, none⟩ = some (.int .i64 a) := cell_later hB1 (by go_simp)
  have a1 : w1.cell? ⟨w.heap.size, 1, none⟩ = some (.int .i64 b) := cell_later hB1 (by go_simp)
  have b0 : w1.cell? ⟨w.heap.size + 1, 0, none⟩ = some (.int .i64 c) := cell_later hB1 (by go_simp)
  have b1 : w1.cell? ⟨w.heap.size + 1, 1, none⟩ = some (.int .i64 d) := cell_later hB1 (by go_simp)
  clear hB1
  go_wp2_with fail
  refine (hf _ _).mono ?_
  rintro e2 w2 ⟨rfl, hB2⟩
  have hz2 : w.heap.size + 1 < w2.heap.size := by have := hB2.size; omega
  have hT2 : Below w.heap.size w w2 := hT1.trans (hB2.mono (by omega))
  replace a0 := cell_later hB2 a0
  replace a1 := cell_later hB2 a1
  replace b0 := cell_later hB2 b0
  replace b1 := cell_later hB2 b1
  clear hB2 hT1 hz1
  go_wp2_with fail
  refine (hg _ _).mono ?_
  rintro e3 w3 ⟨rfl, hB3⟩
  have hz23 : w2.heap.size < w3.heap.size := by have := hB3.size; simp at this; omega
  have hz3 : w.heap.size + 1 < w3.heap.size := by omega
  have hT3 : Below w.heap.size w w3 := (hT2.alloc (by omega) _).trans (hB3.mono (by simp; omega))
  replace a0 := keepA hB3 a0
  replace a1 := keepA hB3 a1
  replace b0 := keepA hB3 b0
  replace b1 := keepA hB3 b1
  have f0 : w3.cell? ⟨w2.heap.size, 0, none⟩ = some (.int .i64 (fullLow k)) := newA hB3 rfl
  have f1 : w3.cell? ⟨w2.heap.size, 1, none⟩ = some (.int .i64 (fullHigh k)) := newA hB3 rfl
  clear hB3 hT2
  go_wp2_with fail
  generalize fullErr k = fe at *
  generalize fullHigh k = fh at *
  generalize fullLow k = fl at *
  generalize hW : w3.alloc (.cells #[.int .i64 fl, .int .i64 fh] 23) = W
  have g0 : W.cell? ⟨w3.heap.size, 0, none⟩ = some (.int .i64 fl) := by rw [← hW, World.cell?_alloc_new]; rfl
  have g1 : W.cell? ⟨w3.heap.size, 1, none⟩ = some (.int .i64 fh) := by rw [← hW, World.cell?_alloc_new]; rfl
  have hzW : w3.heap.size < W.heap.size := by rw [← hW]; simp
  have hTW : Below w.heap.size w W := by rw [← hW]; exact hT3.alloc (by omega) _
  replace a0 : W.cell? ⟨w.heap.size, 0, none⟩ = some (.int .i64 a) := by rw [← hW, World.cell?_alloc_lt _ _ _ (by simp; omega)]; exact a0
  replace a1 : W.cell? ⟨w.heap.size, 1, none⟩ = some (.int .i64 b) := by rw [← hW, World.cell?_alloc_lt _ _ _ (by simp; omega)]; exact a1
  replace b0 : W.cell? ⟨w.heap.size + 1, 0, none⟩ = some (.int .i64 c) := by rw [← hW, World.cell?_alloc_lt _ _ _ (by simp; omega)]; exact b0
  replace b1 : W.cell? ⟨w.heap.size + 1, 1, none⟩ = some (.int .i64 d) := by rw [← hW, World.cell?_alloc_lt _ _ _ (by simp; omega)]; exact b1
  replace f0 : W.cell? ⟨w2.heap.size, 0, none⟩ = some (.int .i64 fl) := by rw [← hW, World.cell?_alloc_lt _ _ _ hz23]; exact f0
  replace f1 : W.cell? ⟨w2.heap.size, 1, none⟩ = some (.int .i64 fh) := by rw [← hW, World.cell?_alloc_lt _ _ _ hz23]; exact f1
  clear hW hT3
  generalize w2.heap.size = n2 at *
  generalize w3.heap.size = n3 at *
  go_region_held3 (fun w' => w'.cell? ⟨w.heap.size, 0, none⟩ = some (.int .i64 a) ∧ w'.cell? ⟨w.heap.size, 1, none⟩ = some (.int .i64 b) ∧ w'.cell? ⟨n2, 0, none⟩ = some (.int .i64 fl) ∧ w'.cell? ⟨n2, 1, none⟩ = some (.int .i64 fh) ∧ w'.cell? ⟨n3, 0, none⟩ = some (.int .i64 fl) ∧ w'.cell? ⟨n3, 1, none⟩ = some (.int .i64 fh) ∧ w'.cell? ⟨w.heap.size + 1, 0, none⟩ = some (.int .i64 c) ∧ w'.cell? ⟨w.heap.size + 1, 1, none⟩ = some (.int .i64 d) ∧ Below w.heap.size w w' ∧ W.heap.size ≤ w'.heap.size)
    (first
      | exact ⟨a0, a1, f0, f1, g0, g1, b0, b1, hTW.drew, Nat.le_refl _⟩
      | (go_split_ands; exact ⟨cell_later hBq ‹_›, cell_later hBq ‹_›, cell_later hBq ‹_›, cell_later hBq ‹_›, cell_later hBq ‹_›, cell_later hBq ‹_›, cell_later hBq ‹_›, cell_later hBq ‹_›, Below.trans ‹_› (hBq.mono (by omega)), by have := hBq.size; omega⟩))
    (first
      | (go_at_call 13; refine (HC _).out.mono ?_; rintro eq wq ⟨rfl, hBq⟩)
      | (go_at_call 14; refine (HD _).out.mono ?_; rintro eq wq ⟨rfl, hBq⟩))
  rename_i hq
  clear hBq
  obtain ⟨a0, a1, f0, f1, g0, g1, b0, b1, hTq, hzq⟩ := hq
  have hz4 : w.heap.size + 1 < wq.heap.size := by omega
  clear f0 f1 g0 g1 hTW hzW hzq
  go_wp2_with fail
  refine (hj _).mono ?_
  rintro e4 w4 ⟨rfl, hB4⟩
  have hz5 : w.heap.size + 1 < w4.heap.size := by have := hB4.size; omega
  have hz5' : w.heap.size < w4.heap.size := by omega
  have hT4 : Below w.heap.size w w4 := hTq.trans (hB4.mono (by omega))
  replace a0 := cell_later hB4 a0
  replace a1 := cell_later hB4 a1
  replace b0 := cell_later hB4 b0
  replace b1 := cell_later hB4 b1
  clear hB4 hTq
  go_wp2_with fail
  refine (hi _).mono ?_
  rintro e5 w5 ⟨rfl, hB5⟩
  have hz45 : w4.heap.size < w5.heap.size := by have := hB5.size; simp at this; omega
  have hz6 : w.heap.size + 1 < w5.heap.size := by omega
  have hz6' : w.heap.size < w5.heap.size := by omega
  have hT5 : Below w.heap.size w w5 := (hT4.alloc (by omega) _).trans (hB5.mono (by simp; omega))
  replace a0 := keepA hB5 a0
  replace a1 := keepA hB5 a1
  replace b0 := keepA hB5 b0
  replace b1 := keepA hB5 b1
  have x0 : w5.cell? ⟨w4.heap.size, 0, none⟩ = some (.int .i64 x) := newA hB5 rfl
  have x1 : w5.cell? ⟨w4.heap.size, 1, none⟩ = some (.int .i64 y) := newA hB5 rfl
  have fx0 : w5.frozen? ⟨w4.heap.size, 0, none⟩ = false := newF hB5
  have fx1 : w5.frozen? ⟨w4.heap.size, 1, none⟩ = false := newF hB5
  clear hB5 hT4
  go_wp2_with fail
  refine (hm _).mono ?_
  rintro e6 w6 ⟨rfl, hB6⟩
  have hz56 : w5.heap.size < w6.heap.size := by have := hB6.size; simp at this; omega
  have hz46 : w4.heap.size < w6.heap.size := by omega
  have hz7 : w.heap.size + 1 < w6.heap.size := by omega
  have hz7' : w.heap.size < w6.heap.size := by omega
  have hT6 : Below w.heap.size w w6 := (hT5.alloc (by omega) _).trans (hB6.mono (by simp; omega))
  replace a0 := keepA hB6 a0
  replace a1 := keepA hB6 a1
  replace b0 := keepA hB6 b0
  replace b1 := keepA hB6 b1
  replace x0 := keepA hB6 x0
  replace x1 := keepA hB6 x1
  replace fx0 := keepF hB6 hz45 fx0
  replace fx1 := keepF hB6 hz45 fx1
  have z0 : w6.cell? ⟨w5.heap.size, 0, none⟩ = some (.int .i64 x) := newA hB6 rfl
  have z1 : w6.cell? ⟨w5.heap.size, 1, none⟩ = some (.int .i64 y) := newA hB6 rfl
  have fz0 : w6.frozen? ⟨w5.heap.size, 0, none⟩ = false := newF hB6
  have fz1 : w6.frozen? ⟨w5.heap.size, 1, none⟩ = false := newF hB6
  clear hB6 hT5
  go_wp2_with fail
  have A0 : ((w6.setCell ⟨w4.heap.size, 0, none⟩ (.int .i64 u)).setCell ⟨w4.heap.size, 1, none⟩ (.int .i64 v)).cell? ⟨w.heap.size, 0, none⟩ = some (.int .i64 a) := by go_simp
  have A1 : ((w6.setCell ⟨w4.heap.size, 0, none⟩ (.int .i64 u)).setCell ⟨w4.heap.size, 1, none⟩ (.int .i64 v)).cell? ⟨w.heap.size, 1, none⟩ = some (.int .i64 b) := by go_simp
  have B0 : ((w6.setCell ⟨w4.heap.size, 0, none⟩ (.int .i64 u)).setCell ⟨w4.heap.size, 1, none⟩ (.int .i64 v)).cell? ⟨w.heap.size + 1, 0, none⟩ = some (.int .i64 c) := by go_simp
  have B1 : ((w6.setCell ⟨w4.heap.size, 0, none⟩ (.int .i64 u)).setCell ⟨w4.heap.size, 1, none⟩ (.int .i64 v)).cell? ⟨w.heap.size + 1, 1, none⟩ = some (.int .i64 d) := by go_simp
  have X0 : ((w6.setCell ⟨w4.heap.size, 0, none⟩ (.int .i64 u)).setCell ⟨w4.heap.size, 1, none⟩ (.int .i64 v)).cell? ⟨w4.heap.size, 0, none⟩ = some (.int .i64 u) := by go_simp
  have X1 : ((w6.setCell ⟨w4.heap.size, 0, none⟩ (.int .i64 u)).setCell ⟨w4.heap.size, 1, none⟩ (.int .i64 v)).cell? ⟨w4.heap.size, 1, none⟩ = some (.int .i64 v) := by go_simp
  have Z0 : ((w6.setCell ⟨w4.heap.size, 0, none⟩ (.int .i64 u)).setCell ⟨w4.heap.size, 1, none⟩ (.int .i64 v)).cell? ⟨w5.heap.size, 0, none⟩ = some (.int .i64 x) := by go_simp
  have Z1 : ((w6.setCell ⟨w4.heap.size, 0, none⟩ (.int .i64 u)).setCell ⟨w4.heap.size, 1, none⟩ (.int .i64 v)).cell? ⟨w5.heap.size, 1, none⟩ = some (.int .i64 y) := by go_simp
  have FZ0 : ((w6.setCell ⟨w4.heap.size, 0, none⟩ (.int .i64 u)).setCell ⟨w4.heap.size, 1, none⟩ (.int .i64 v)).frozen? ⟨w5.heap.size, 0, none⟩ = false := by go_simp
  have FZ1 : ((w6.setCell ⟨w4.heap.size, 0, none⟩ (.int .i64 u)).setCell ⟨w4.heap.size, 1, none⟩ (.int .i64 v)).frozen? ⟨w5.heap.size, 1, none⟩ = false := by go_simp
  have TW : Below w.heap.size w ((w6.setCell ⟨w4.heap.size, 0, none⟩ (.int .i64 u)).setCell ⟨w4.heap.size, 1, none⟩ (.int .i64 v)) := (hT6.setCell (by simp; omega) _).setCell (by simp; omega) _
  have SW : ((w6.setCell ⟨w4.heap.size, 0, none⟩ (.int .i64 u)).setCell ⟨w4.heap.size, 1, none⟩ (.int .i64 v)).heap.size = w6.heap.size := by simp [World.setCell]
  generalize ((w6.setCell ⟨w4.heap.size, 0, none⟩ (.int .i64 u)).setCell ⟨w4.heap.size, 1, none⟩ (.int .i64 v)) = V at *
  have hzV : w5.heap.size < V.heap.size := by omega
  have hzV4 : w4.heap.size < V.heap.size := by omega
  have hzV1 : w.heap.size + 1 < V.heap.size := by omega
  clear SW a0 a1 b0 b1 x0 x1 fx0 fx1 z0 z1 fz0 fz1 hT6
  generalize w4.heap.size = n4 at *
  generalize w5.heap.size = n5 at *
  refine (hn _).mono ?_
  rintro e7 w7 ⟨rfl, hB7⟩
  have hz8 : w.heap.size < w7.heap.size := by have := hB7.size; omega
  have hT7 : Below w.heap.size w w7 := TW.trans (hB7.mono (by omega))
  replace X0 := cell_later hB7 X0
  replace X1 := cell_later hB7 X1
  replace Z0 := cell_later hB7 Z0
  replace Z1 := cell_later hB7 Z1
  replace FZ0 : w7.frozen? ⟨n5, 0, none⟩ = false := (hB7.frozen (p := ⟨n5, 0, none⟩) hzV).trans FZ0
  replace FZ1 : w7.frozen? ⟨n5, 1, none⟩ = false := (hB7.frozen (p := ⟨n5, 1, none⟩) hzV).trans FZ1
  clear hB7 TW A0 A1 B0 B1
  go_wp2
  go_ret
  exact ⟨rfl, (hT7.setCell (by simp; omega) _).setCell (by simp; omega) _⟩

end Go.Proofs.Ytomjcpgjlhencaa
