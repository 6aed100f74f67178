/- RefI, LawPicked, RangesA, RangesB, RangesC, RangesD. -/
import Derived.Test.YtomjcpgjlhencaaKRefH
import Derived.Laws.BitsAllLaws
import Derived.Laws.BitsLemmas
import Derived.IntWalk
import Derived.WalkKit
set_option linter.unusedSimpArgs false
set_option linter.unusedVariables false
/- The contract of the reference function left of layer 4, for all comparisons and all ranges that are not empty. -/
namespace Go.Proofs.Ytomjcpgjlhencaa
open Go.RowKit

/-- Two ranges and a truth. -/
structure Two where
  x0 : Int
  x1 : Int
  y0 : Int
  y1 : Int
  p : Bool

def leLeft (a b c d : Int) : Two := ⟨a, min b d, max c a, d, decide (a ≤ d)⟩
def ltLeft (a b c d : Int) : Two := if d = -9223372036854775808 ∨ a = 9223372036854775807 then ⟨a, b, c, d, false⟩ else ⟨a, min b (d - 1), max c (a + 1), d, decide (a < d)⟩
def eqLeft (a b c d : Int) : Two := if max a c ≤ min b d then ⟨max a c, min b d, max a c, min b d, true⟩ else ⟨0, 0, 0, 0, false⟩
def neLeft (a b c d : Int) : Two :=
  let x0 := if (c == d) = true then woLow a b c else a
  let x1 := if (c == d) = true then woHigh a b c else b
  let y0 := if (a == b) = true then woLow c d a else c
  let y1 := if (a == b) = true then woHigh c d a else d
  ⟨x0, x1, y0, y1, decide (x0 ≤ x1) && decide (y0 ≤ y1)⟩
def Two.swap (t : Two) : Two := ⟨t.y0, t.y1, t.x0, t.x1, t.p⟩
def leftS (op a b c d : Int) : Two :=
  if op = 11 then eqLeft a b c d else if op = 12 then neLeft a b c d else if op = 13 then ltLeft a b c d else if op = 14 then leLeft a b c d else if op = 15 then (ltLeft c d a b).swap else (leLeft c d a b).swap

def TwoV (t : Two) : Value := .tuple #[.agg #[.int .i64 t.x0, .int .i64 t.x1], .agg #[.int .i64 t.y0, .int .i64 t.y1], .bool t.p]

structure Ok64 (a b : Int) : Prop where
  le : a ≤ b
  lo : -9223372036854775808 ≤ a
  hi : b ≤ 9223372036854775807

theorem lt_any (a b c d : Int) (w : World) (h : Ok64 a b) (g : Ok64 c d) :
    Calls Try.prog 48 #[.int .i64 13, .agg #[.int .i64 a, .int .i64 b], .agg #[.int .i64 c, .int .i64 d]] w fun e w' => e = .returned (TwoV (ltLeft a b c d)) ∧ Below w.heap.size w w' := by
  unfold ltLeft
  by_cases h1 : d = -9223372036854775808
  · rw [if_pos (.inl h1)]
    exact left_lt_edge1 a b c d w (by rw [h1]; rfl)
  · by_cases h2 : a = 9223372036854775807
    · rw [if_pos (.inr h2)]
      exact left_lt_edge2 a b c d w (by simpa using h1) (by rw [h2]; rfl)
    · rw [if_neg (by simp [h1, h2])]
      have := g.le; have := g.lo; have := g.hi; have := h.le; have := h.lo; have := h.hi
      exact left_lt a b c d w h.le g.le (by omega) (by omega) h.hi g.hi h.lo

theorem le_any (a b c d : Int) (w : World) (h : Ok64 a b) (g : Ok64 c d) :
    Calls Try.prog 48 #[.int .i64 14, .agg #[.int .i64 a, .int .i64 b], .agg #[.int .i64 c, .int .i64 d]] w fun e w' => e = .returned (TwoV (leLeft a b c d)) ∧ Below w.heap.size w w' :=
  left_le a b c d w h.le g.le

theorem left_any (op a b c d : Int) (w : World) (h : Ok64 a b) (g : Ok64 c d) (o1 : 11 ≤ op) (o2 : op ≤ 16) :
    Calls Try.prog 48 #[.int .i64 op, .agg #[.int .i64 a, .int .i64 b], .agg #[.int .i64 c, .int .i64 d]] w fun e w' => e = .returned (TwoV (leftS op a b c d)) ∧ Below w.heap.size w w' := by
  obtain rfl | rfl | rfl | rfl | rfl | rfl : op = 11 ∨ op = 12 ∨ op = 13 ∨ op = 14 ∨ op = 15 ∨ op = 16 := by omega
  · show Calls _ _ _ _ fun e w' => e = .returned (TwoV (eqLeft a b c d)) ∧ _
    unfold eqLeft
    by_cases hm : max a c ≤ min b d
    · rw [if_pos hm]; exact left_eq_yes a b c d w h.le g.le hm
    · rw [if_neg hm]; exact left_eq_no a b c d w h.le g.le (by omega)
  · exact left_ne a b c d w h.le g.le h.lo h.hi g.lo g.hi _ _ _ _ _ _ rfl rfl rfl rfl rfl rfl _ _ rfl rfl
  · exact lt_any a b c d w h g
  · exact le_any a b c d w h g
  · exact left_gt a b c d w _ _ _ _ _ (fun w => lt_any c d a b w g h)
  · exact left_ge a b c d w _ _ _ _ _ (fun w => le_any c d a b w g h)

end Go.Proofs.Ytomjcpgjlhencaa

/- The contracts of the laws' own helpers picked and holds of layer 4. -/
namespace Go.Proofs.Ytomjcpgjlhencaa
open Go.RowKit

def spanU (lo hi : Int) : Int := IntKind.u64.wrap (IntKind.u64.wrap (IntKind.u64.wrap hi - IntKind.u64.wrap lo) + 1)
def PickPost (lo hi : Int) (w : World) (e : Ending) (w' : World) : Prop := (∃ v : Int, e = .returned (.int .i64 v) ∧ lo ≤ v ∧ v ≤ hi) ∧ Below w.heap.size w w'

theorem span_zero (lo hi n : Int) (h : Ok64 lo hi) (hs : spanU lo hi = 0) : lo ≤ wrap64 n ∧ wrap64 n ≤ hi := by
  have h1 := h.le; have h2 := h.lo; have h3 := h.hi
  unfold spanU at hs
  simp only [IntKind.wrap_u64] at hs
  unfold wrap64
  omega
theorem span_some (lo hi : Int) (h : Ok64 lo hi) (hs : ¬ spanU lo hi = 0) : spanU lo hi = hi - lo + 1 := by
  have h1 := h.le; have h2 := h.lo; have h3 := h.hi
  unfold spanU at hs ⊢
  simp only [IntKind.wrap_u64] at hs ⊢
  omega

set_option maxHeartbeats 1000000 in
theorem picked_full (lo hi : Int) (n : Int) (w : World) (hs : (spanU lo hi == 0) = true) :
    Calls Try.prog 27 #[.agg #[.int .i64 lo, .int .i64 hi], .int .u64 n] w fun e w' => e = .returned (.int .i64 (wrap64 n)) ∧ Below w.heap.size w w' := by
  unfold spanU at hs
  go_enter Try.func27, Try.ntmps27
  go_wp2
  go_ret
  exact ⟨rfl, (Below.refl _ _).alloc (Nat.le_refl _) _⟩

set_option maxHeartbeats 1000000 in
theorem picked_part (lo hi : Int) (n : Int) (w : World) (hs : (spanU lo hi == 0) = false) (hs' : ¬ spanU lo hi = 0) :
    Calls Try.prog 27 #[.agg #[.int .i64 lo, .int .i64 hi], .int .u64 n] w fun e w' => e = .returned (.int .i64 (wrap64 (IntKind.u64.wrap (IntKind.u64.wrap lo + n.tmod (spanU lo hi))))) ∧ Below w.heap.size w w' := by
  unfold spanU at hs hs' ⊢
  go_enter Try.func27, Try.ntmps27
  go_wp2
  go_region
  go_wp2
  go_ret
  exact ⟨rfl, ((Below.refl _ _).alloc (Nat.le_refl _) _).drew⟩

theorem picked_in (lo hi n : Int) (h : Ok64 lo hi) (hn : 0 ≤ n) (hs : ¬ spanU lo hi = 0) : lo ≤ wrap64 (IntKind.u64.wrap (IntKind.u64.wrap lo + n.tmod (spanU lo hi))) ∧ wrap64 (IntKind.u64.wrap (IntKind.u64.wrap lo + n.tmod (spanU lo hi))) ≤ hi := by
  rw [span_some lo hi h hs]
  have h1 := h.le; have h2 := h.lo; have h3 := h.hi
  have e1 : n.tmod (hi - lo + 1) = n % (hi - lo + 1) := Int.tmod_eq_emod_of_nonneg hn
  have e2 := Int.emod_nonneg n (show hi - lo + 1 ≠ 0 from by omega)
  have e3 := Int.emod_lt_of_pos n (show 0 < hi - lo + 1 from by omega)
  rw [e1]
  generalize n % (hi - lo + 1) = r at *
  simp only [IntKind.wrap_u64]
  unfold wrap64
  omega

theorem picked_any (lo hi n : Int) (w : World) (h : Ok64 lo hi) (hn : 0 ≤ n) :
    Calls Try.prog 27 #[.agg #[.int .i64 lo, .int .i64 hi], .int .u64 n] w (PickPost lo hi w) := by
  by_cases hs : spanU lo hi = 0
  · exact (picked_full lo hi n w (by simpa using hs)).mono fun _ _ ⟨he, hb⟩ => ⟨⟨_, he, span_zero lo hi n h hs⟩, hb⟩
  · exact (picked_part lo hi n w (by simpa using hs) hs).mono fun _ _ ⟨he, hb⟩ => ⟨⟨_, he, picked_in lo hi n h hn hs⟩, hb⟩

def holdsS (op m n : Int) : Bool := if op = 11 then m == n else if op = 12 then m != n else if op = 13 then decide (m < n) else if op = 14 then decide (m ≤ n) else if op = 15 then decide (n < m) else decide (n ≤ m)

set_option maxHeartbeats 1000000 in
theorem holds_any (op m n : Int) (w : World) (h1 : 11 ≤ op) (h2 : op ≤ 16) :
    Calls Try.prog 30 #[.int .i64 op, .int .i64 m, .int .i64 n] w fun e w' => e = .returned (.bool (holdsS op m n)) ∧ w = w' := by
  obtain rfl | rfl | rfl | rfl | rfl | rfl : op = 11 ∨ op = 12 ∨ op = 13 ∨ op = 14 ∨ op = 15 ∨ op = 16 := by omega
  all_goals
    clear h1 h2
    go_enter Try.func30, Try.ntmps30
    go_wp2
    go_ret
    exact ⟨rfl, rfl⟩

end Go.Proofs.Ytomjcpgjlhencaa

/- Plain arithmetic of intervals: products, quotients, shifts of ranges lie between those of the ends. -/
namespace Go.Proofs.Ytomjcpgjlhencaa.RangesMath

theorem mul_mid (a b v w : Int) (h1 : a ≤ v) (h2 : v ≤ b) : min (a * w) (b * w) ≤ v * w ∧ v * w ≤ max (a * w) (b * w) := by
  by_cases h : 0 ≤ w
  · have e1 := Int.mul_le_mul_of_nonneg_right h1 h
    have e2 := Int.mul_le_mul_of_nonneg_right h2 h
    omega
  · have e1 := Int.mul_le_mul_of_nonpos_right h1 (show w ≤ 0 by omega)
    have e2 := Int.mul_le_mul_of_nonpos_right h2 (show w ≤ 0 by omega)
    omega

theorem mul_corners (a b c d v w : Int) (h1 : a ≤ v) (h2 : v ≤ b) (h3 : c ≤ w) (h4 : w ≤ d) :
    min (min (a * c) (a * d)) (min (b * c) (b * d)) ≤ v * w ∧ v * w ≤ max (max (a * c) (a * d)) (max (b * c) (b * d)) := by
  have e := mul_mid a b v w h1 h2
  have f := mul_mid c d w a h3 h4
  have g := mul_mid c d w b h3 h4
  rw [Int.mul_comm c a, Int.mul_comm d a, Int.mul_comm w a] at f
  rw [Int.mul_comm c b, Int.mul_comm d b, Int.mul_comm w b] at g
  omega

theorem tdiv_den (v c w : Int) (hv : 0 ≤ v) (hc : 0 < c) (hw : c ≤ w) : v.tdiv w ≤ v.tdiv c := by
  rw [Int.tdiv_eq_ediv_of_nonneg hv, Int.tdiv_eq_ediv_of_nonneg hv]
  apply Int.le_ediv_of_mul_le hc
  have q0 : 0 ≤ v / w := Int.ediv_nonneg hv (by omega)
  have e := Int.mul_le_mul_of_nonneg_left hw q0
  have f := Int.ediv_mul_le v (show w ≠ 0 by omega)
  omega

/-- The quotient lies between those of the ends of a divisor that is above 0. -/
theorem tdiv_den_mid (v c d w : Int) (hc : 0 < c) (h1 : c ≤ w) (h2 : w ≤ d) : min (v.tdiv c) (v.tdiv d) ≤ v.tdiv w ∧ v.tdiv w ≤ max (v.tdiv c) (v.tdiv d) := by
  by_cases hv : 0 ≤ v
  · have e := tdiv_den v c w hv hc h1
    have f := tdiv_den v w d hv (by omega) h2
    omega
  · have e := tdiv_den (-v) c w (by omega) hc h1
    have f := tdiv_den (-v) w d (by omega) (by omega) h2
    rw [Int.neg_tdiv, Int.neg_tdiv] at e f
    omega

theorem tdiv_num_mid (a b v w : Int) (hw : 0 < w) (h1 : a ≤ v) (h2 : v ≤ b) : a.tdiv w ≤ v.tdiv w ∧ v.tdiv w ≤ b.tdiv w :=
  ⟨Int.tdiv_le_tdiv hw h1, Int.tdiv_le_tdiv hw h2⟩

theorem tdiv_corners_pos (a b c d v w : Int) (h1 : a ≤ v) (h2 : v ≤ b) (h3 : c ≤ w) (h4 : w ≤ d) (hc : 0 < c) :
    min (min (a.tdiv c) (a.tdiv d)) (min (b.tdiv c) (b.tdiv d)) ≤ v.tdiv w ∧ v.tdiv w ≤ max (max (a.tdiv c) (a.tdiv d)) (max (b.tdiv c) (b.tdiv d)) := by
  have e := tdiv_num_mid a b v w (by omega) h1 h2
  have f := tdiv_den_mid a c d w hc h3 h4
  have g := tdiv_den_mid b c d w hc h3 h4
  omega

theorem tdiv_corners (a b c d v w : Int) (h1 : a ≤ v) (h2 : v ≤ b) (h3 : c ≤ w) (h4 : w ≤ d) (hc : 0 < c ∨ d < 0) :
    min (min (a.tdiv c) (a.tdiv d)) (min (b.tdiv c) (b.tdiv d)) ≤ v.tdiv w ∧ v.tdiv w ≤ max (max (a.tdiv c) (a.tdiv d)) (max (b.tdiv c) (b.tdiv d)) := by
  rcases hc with hc | hc
  · exact tdiv_corners_pos a b c d v w h1 h2 h3 h4 hc
  · have e := tdiv_corners_pos a b (-d) (-c) v (-w) h1 h2 (by omega) (by omega) (by omega)
    rw [Int.tdiv_neg, Int.tdiv_neg, Int.tdiv_neg, Int.tdiv_neg, Int.tdiv_neg] at e
    omega

/-- A rest has the sign of the number, is no greater than it, and less than the divisor, in absolute value. -/
theorem tmod_bounds (v w : Int) (hw : w ≠ 0) : (0 ≤ v → 0 ≤ v.tmod w ∧ v.tmod w ≤ v) ∧ (v ≤ 0 → v ≤ v.tmod w ∧ v.tmod w ≤ 0) ∧ -(w.natAbs : Int) < v.tmod w ∧ v.tmod w < w.natAbs := by
  have key : ∀ v : Int, 0 ≤ v → 0 ≤ v.tmod w ∧ v.tmod w ≤ v ∧ v.tmod w < w.natAbs := by
    intro v hv
    rw [Int.tmod_eq_emod_of_nonneg hv]
    have h1 := Int.emod_nonneg v hw
    have h2 := Int.emod_lt v hw
    refine ⟨h1, ?_, by omega⟩
    have h3 : v % w = v - w * (v / w) := by have := Int.mul_ediv_add_emod v w; omega
    have h4 : 0 ≤ w * (v / w) := by
      by_cases hw0 : 0 ≤ w
      · exact Int.mul_nonneg hw0 (Int.ediv_nonneg hv hw0)
      · have h5 : v / w ≤ 0 := Int.ediv_nonpos_of_nonneg_of_nonpos hv (by omega)
        have := Int.mul_le_mul_of_nonpos_left h5 (show w ≤ 0 by omega)
        rw [Int.mul_comm w (v / w)]
        omega
    omega
  by_cases hv : 0 ≤ v
  · have := key v hv
    refine ⟨fun _ => ⟨this.1, this.2.1⟩, fun h => ?_, by omega, this.2.2⟩
    omega
  · have := key (-v) (by omega)
    rw [Int.neg_tmod] at this
    refine ⟨fun h => by omega, fun _ => by omega, by omega, by omega⟩

theorem tmod_small (v w : Int) (h : v.natAbs < w.natAbs) : v.tmod w = v := by
  have key : ∀ v w : Int, 0 ≤ v → v < w → v.tmod w = v := fun v w h1 h2 => by
    rw [Int.tmod_eq_emod_of_nonneg h1]; exact Int.emod_eq_of_lt h1 h2
  by_cases hv : 0 ≤ v <;> by_cases hw : 0 ≤ w
  · exact key v w hv (by omega)
  · have := key v (-w) hv (by omega); rwa [Int.tmod_neg] at this
  · have := key (-v) w (by omega) (by omega); rw [Int.neg_tmod] at this; omega
  · have := key (-v) (-w) (by omega) (by omega); rw [Int.neg_tmod, Int.tmod_neg] at this; omega

theorem pow_mono (c w : Nat) (h : c ≤ w) : (2 : Int) ^ c ≤ 2 ^ w := by
  have := Nat.pow_le_pow_right (show 0 < 2 by omega) h
  have e : ∀ n : Nat, (2 : Int) ^ n = ((2 ^ n : Nat) : Int) := fun n => by simp
  rw [e, e]
  omega

theorem shl_corners (a b v : Int) (c d w : Nat) (h1 : a ≤ v) (h2 : v ≤ b) (h3 : c ≤ w) (h4 : w ≤ d) :
    min (min (a * 2 ^ c) (a * 2 ^ d)) (min (b * 2 ^ c) (b * 2 ^ d)) ≤ v * 2 ^ w ∧ v * 2 ^ w ≤ max (max (a * 2 ^ c) (a * 2 ^ d)) (max (b * 2 ^ c) (b * 2 ^ d)) :=
  mul_corners a b (2 ^ c) (2 ^ d) v (2 ^ w) h1 h2 (pow_mono c w h3) (pow_mono w d h4)

/-- Quotients rounded down. -/
theorem ediv_den (v c w : Int) (hv : 0 ≤ v) (hc : 0 < c) (hw : c ≤ w) : v / w ≤ v / c := by
  apply Int.le_ediv_of_mul_le hc
  have q0 : 0 ≤ v / w := Int.ediv_nonneg hv (by omega)
  have e := Int.mul_le_mul_of_nonneg_left hw q0
  have f := Int.ediv_mul_le v (show w ≠ 0 by omega)
  omega
theorem ediv_den_neg (v c w : Int) (hv : v ≤ 0) (hc : 0 < c) (hw : c ≤ w) : v / c ≤ v / w := by
  apply Int.le_ediv_of_mul_le (by omega)
  have q0 : v / c ≤ 0 := Int.ediv_nonpos_of_nonpos_of_neg hv (by omega)
  have e := Int.mul_le_mul_of_nonpos_left q0 hw
  have f := Int.ediv_mul_le v (show c ≠ 0 by omega)
  omega

theorem shr_corners (a b v : Int) (c d w : Nat) (h1 : a ≤ v) (h2 : v ≤ b) (h3 : c ≤ w) (h4 : w ≤ d) :
    min (min (a / 2 ^ c) (a / 2 ^ d)) (min (b / 2 ^ c) (b / 2 ^ d)) ≤ v / 2 ^ w ∧ v / 2 ^ w ≤ max (max (a / 2 ^ c) (a / 2 ^ d)) (max (b / 2 ^ c) (b / 2 ^ d)) := by
  have p : ∀ n : Nat, (0 : Int) < 2 ^ n := fun n => Int.pow_pos (by omega)
  have e1 := Int.ediv_le_ediv (p w) h1
  have e2 := Int.ediv_le_ediv (p w) h2
  have m1 := pow_mono c w h3
  have m2 := pow_mono w d h4
  have key : ∀ x : Int, min (x / 2 ^ c) (x / 2 ^ d) ≤ x / 2 ^ w ∧ x / 2 ^ w ≤ max (x / 2 ^ c) (x / 2 ^ d) := by
    intro x
    by_cases hx : 0 ≤ x
    · have f := ediv_den x _ _ hx (p c) m1
      have g := ediv_den x _ _ hx (p w) m2
      omega
    · have f := ediv_den_neg x _ _ (by omega) (p c) m1
      have g := ediv_den_neg x _ _ (by omega) (p w) m2
      omega
  have f := key a
  have g := key b
  omega
end Go.Proofs.Ytomjcpgjlhencaa.RangesMath

/- Plain arithmetic of the bits of numbers of 64 bits. -/
namespace Go.Proofs.Ytomjcpgjlhencaa.RangesMath
open Go

theorem ofInt_nat (a : Nat) (ha : a < 9223372036854775808) : (BitVec.ofInt 64 (a : Int)).toNat = a := by
  rw [BitVec.ofInt_natCast, BitVec.toNat_ofNat]; exact Nat.mod_eq_of_lt (by omega)
theorem or_nat (a b : Nat) (ha : a < 9223372036854775808) (hb : b < 9223372036854775808) : bits .or .i64 (a : Int) (b : Int) = ((a ||| b : Nat) : Int) := by
  have hx : a ||| b < 2 ^ 63 := Nat.or_lt_two_pow (by omega) (by omega)
  show IntKind.i64.wrap ((BitVec.ofInt 64 (a : Int) ||| BitVec.ofInt 64 (b : Int)).toNat : Int) = _
  rw [BitVec.toNat_or, ofInt_nat a ha, ofInt_nat b hb, IntKind.wrap_i64]
  omega
theorem xor_nat (a b : Nat) (ha : a < 9223372036854775808) (hb : b < 9223372036854775808) : bits .xor .i64 (a : Int) (b : Int) = ((a ^^^ b : Nat) : Int) := by
  have hx : a ^^^ b < 2 ^ 63 := Nat.xor_lt_two_pow (by omega) (by omega)
  show IntKind.i64.wrap ((BitVec.ofInt 64 (a : Int) ^^^ BitVec.ofInt 64 (b : Int)).toNat : Int) = _
  rw [BitVec.toNat_xor, ofInt_nat a ha, ofInt_nat b hb, IntKind.wrap_i64]
  omega
theorem and_left (a b : Int) (ha : 0 ≤ a) (ha' : a ≤ 9223372036854775807) : 0 ≤ bits .and .i64 a b ∧ bits .and .i64 a b ≤ a := by
  obtain ⟨n, rfl⟩ := Int.eq_ofNat_of_zero_le ha
  show 0 ≤ IntKind.i64.wrap ((BitVec.ofInt 64 (n : Int) &&& BitVec.ofInt 64 b).toNat : Int) ∧ IntKind.i64.wrap ((BitVec.ofInt 64 (n : Int) &&& BitVec.ofInt 64 b).toNat : Int) ≤ n
  rw [BitVec.toNat_and, ofInt_nat n (by omega), IntKind.wrap_i64]
  have := @Nat.and_le_left n (BitVec.ofInt 64 b).toNat
  omega
theorem and_comm (a b : Int) : bits .and .i64 a b = bits .and .i64 b a := by
  show IntKind.i64.wrap ((BitVec.ofInt 64 a &&& BitVec.ofInt 64 b).toNat : Int) = IntKind.i64.wrap ((BitVec.ofInt 64 b &&& BitVec.ofInt 64 a).toNat : Int)
  rw [BitVec.and_comm]
theorem and_right (a b : Int) (hb : 0 ≤ b) (hb' : b ≤ 9223372036854775807) : 0 ≤ bits .and .i64 a b ∧ bits .and .i64 a b ≤ b := by
  rw [and_comm]; exact and_left b a hb hb'
/-- Both from 0 on: or is at least each of them, and below the power of 2 that both are below; so is xor. -/
theorem or_bounds (a b : Int) (n : Nat) (ha : 0 ≤ a) (hb : 0 ≤ b) (ha' : a < 2 ^ n) (hb' : b < 2 ^ n) (hn : n ≤ 63) : a ≤ bits .or .i64 a b ∧ b ≤ bits .or .i64 a b ∧ bits .or .i64 a b < 2 ^ n := by
  obtain ⟨x, rfl⟩ := Int.eq_ofNat_of_zero_le ha
  obtain ⟨y, rfl⟩ := Int.eq_ofNat_of_zero_le hb
  have e : (2 : Int) ^ n = ((2 ^ n : Nat) : Int) := by simp
  have m : 2 ^ n ≤ 2 ^ 63 := Nat.pow_le_pow_right (by omega) hn
  rw [e] at ha' hb'
  have hx := Int.ofNat_lt.1 ha'
  have hy := Int.ofNat_lt.1 hb'
  rw [e, or_nat x y (by omega) (by omega)]
  have h1 : x ||| y < 2 ^ n := Nat.or_lt_two_pow hx hy
  have h2 := @Nat.left_le_or x y
  have h3 := @Nat.right_le_or x y
  exact ⟨Int.ofNat_le.2 h2, Int.ofNat_le.2 h3, Int.ofNat_lt.2 h1⟩
theorem xor_bounds (a b : Int) (n : Nat) (ha : 0 ≤ a) (hb : 0 ≤ b) (ha' : a < 2 ^ n) (hb' : b < 2 ^ n) (hn : n ≤ 63) : 0 ≤ bits .xor .i64 a b ∧ bits .xor .i64 a b < 2 ^ n := by
  obtain ⟨x, rfl⟩ := Int.eq_ofNat_of_zero_le ha
  obtain ⟨y, rfl⟩ := Int.eq_ofNat_of_zero_le hb
  have e : (2 : Int) ^ n = ((2 ^ n : Nat) : Int) := by simp
  have m : 2 ^ n ≤ 2 ^ 63 := Nat.pow_le_pow_right (by omega) hn
  rw [e] at ha' hb'
  have hx := Int.ofNat_lt.1 ha'
  have hy := Int.ofNat_lt.1 hb'
  rw [e, xor_nat x y (by omega) (by omega)]
  have h1 : x ^^^ y < 2 ^ n := Nat.xor_lt_two_pow hx hy
  exact ⟨Int.natCast_nonneg _, Int.ofNat_lt.2 h1⟩
end Go.Proofs.Ytomjcpgjlhencaa.RangesMath

/- The plain arithmetic of RangesContain: what an operator makes of two values lies in its range. -/
namespace Go.Proofs.Ytomjcpgjlhencaa.RangesMath
open Go Go.RowKit

def fullLow (k : Int) : Int := if k = 1 then -9223372036854775808 else 0
def fullHigh (k : Int) : Int := if k = 1 then 9223372036854775807 else if k = 2 then 255 else if k = 3 then 1 else 0
def out64 (n : Int) : Bool := decide (n < -9223372036854775808 ∨ 9223372036854775807 < n)

/-- An interval of numbers, brought into a kind. -/
def fin (l h k : Int) : Int × Int :=
  if out64 l || out64 h then (fullLow k, fullHigh k) else if k = 1 then (l, h) else if l / 256 = h / 256 then (l % 256, h % 256) else (fullLow k, fullHigh k)

/-- A number as a value of a kind. -/
def low (k n : Int) : Int := if k = 2 then n % 256 else n

theorem fin_holds (l h k n : Int) (hk : k = 1 ∨ k = 2) (h1 : l ≤ n) (h2 : n ≤ h) : (fin l h k).1 ≤ low k (wrap64 n) ∧ low k (wrap64 n) ≤ (fin l h k).2 := by
  unfold fin low fullLow fullHigh
  rcases hk with rfl | rfl
  · by_cases ho : (out64 l || out64 h) = true
    · simp only [ho, if_true]
      unfold wrap64; simp; omega
    · simp [ho]
      simp [out64] at ho
      unfold wrap64; omega
  · by_cases ho : (out64 l || out64 h) = true
    · simp only [ho, if_true]
      unfold wrap64; simp; omega
    · simp [ho]
      split
      · unfold wrap64; simp; omega
      · unfold wrap64; simp; omega

theorem fin_ok (l h k : Int) (hk : k = 1 ∨ k = 2) (h1 : l ≤ h) : fullLow k ≤ (fin l h k).1 ∧ (fin l h k).1 ≤ (fin l h k).2 ∧ (fin l h k).2 ≤ fullHigh k := by
  unfold fin fullLow fullHigh
  rcases hk with rfl | rfl
  · by_cases ho : (out64 l || out64 h) = true
    · simp [ho]
    · simp [ho]
      simp [out64] at ho
      omega
  · by_cases ho : (out64 l || out64 h) = true
    · simp [ho]
    · simp [ho]
      split
      · simp; omega
      · simp

def min4 (a b c d : Int) : Int := min (min a b) (min c d)
def max4 (a b c d : Int) : Int := max (max a b) (max c d)

/-- The effect of an operator. -/
structure Eff where
  lo : Int
  hi : Int
  some : Bool
  trap : Bool
  undef : Bool

def top (k : Int) : Int := if k = 2 then 7 else 63

/-- The least power of 2 less 1 that is not below n. -/
def ones (n : Int) : Int := 2 ^ (if n ≤ 0 then 0 else n.toNat.log2 + 1) - 1

def truthR (p q : Bool) : Int × Int := (if p then 1 else 0, if p then 1 else if q then 0 else 1)

def compS (op a b c d : Int) : Int × Int :=
  if op = 11 then truthR (a == b && a == c && b == d) (decide (b < c) || decide (d < a))
  else if op = 12 then truthR (decide (b < c) || decide (d < a)) (a == b && a == c && b == d)
  else if op = 13 then truthR (decide (b < c)) (decide (d ≤ a))
  else if op = 14 then truthR (decide (b ≤ c)) (decide (d < a))
  else if op = 15 then truthR (decide (d < a)) (decide (b ≤ c))
  else truthR (decide (d ≤ a)) (decide (b < c))

def bitsS (op k a b c d : Int) : Int × Int :=
  if a = b ∧ c = d then
    let n := if op = 8 then bits .and .i64 a c else if op = 9 then bits .xor .i64 a c else bits .or .i64 a c
    (n, n)
  else if op = 8 then
    if 0 ≤ a ∧ 0 ≤ c then (0, min b d) else if 0 ≤ a then (0, b) else if 0 ≤ c then (0, d) else (fullLow k, fullHigh k)
  else if a < 0 ∨ c < 0 then (fullLow k, fullHigh k)
  else if op = 9 then (0, ones (max b d)) else (max a c, ones (max b d))

/-- Does a comparison hold? -/
def holdsB (op m n : Int) : Bool := if op = 11 then m == n else if op = 12 then m != n else if op = 13 then decide (m < n) else if op = 14 then decide (m ≤ n) else if op = 15 then decide (n < m) else decide (n ≤ m)

theorem comp_holds (op a b c d v w : Int) (h1 : a ≤ v) (h2 : v ≤ b) (h3 : c ≤ w) (h4 : w ≤ d) (o1 : 11 ≤ op) (o2 : op ≤ 16) :
    (compS op a b c d).1 ≤ (if holdsB op v w then 1 else 0) ∧ (if holdsB op v w then 1 else 0) ≤ (compS op a b c d).2 := by
  obtain rfl | rfl | rfl | rfl | rfl | rfl : op = 11 ∨ op = 12 ∨ op = 13 ∨ op = 14 ∨ op = 15 ∨ op = 16 := by omega
  all_goals
    simp only [compS, truthR, holdsB, Int.reduceEq, if_true, if_false, Bool.and_eq_true, beq_iff_eq, Bool.or_eq_true, decide_eq_true_eq, bne_iff_ne, ne_eq]
    constructor <;> (repeat' split) <;> omega

theorem log2_spec (n : Nat) (h : 0 < n) : 2 ^ n.log2 ≤ n ∧ n < 2 ^ (n.log2 + 1) := ⟨Nat.log2_self_le (by omega), Nat.lt_log2_self⟩

theorem ones_spec (n : Int) (h : 0 ≤ n) (h' : n ≤ 9223372036854775807) : ∃ m : Nat, m ≤ 63 ∧ ones n = 2 ^ m - 1 ∧ n < 2 ^ m ∧ (2 : Int) ^ m ≤ 9223372036854775808 := by
  unfold ones
  by_cases h0 : n ≤ 0
  · exact ⟨0, by omega, by rw [if_pos h0], by simp; omega, by simp⟩
  · rw [if_neg h0]
    obtain ⟨x, rfl⟩ := Int.eq_ofNat_of_zero_le h
    have hx : 0 < x := by omega
    have e := log2_spec x hx
    simp only [Int.toNat_natCast]
    have hm : x.log2 + 1 ≤ 63 := by
      have : x.log2 < 63 := (Nat.log2_lt (by omega)).2 (by omega)
      omega
    refine ⟨x.log2 + 1, hm, rfl, ?_, ?_⟩
    · have := Int.ofNat_lt.2 e.2
      simpa using this
    · have := pow_mono (x.log2 + 1) 63 hm
      omega

theorem and_range (a b : Int) : -9223372036854775808 ≤ bits .and .i64 a b ∧ bits .and .i64 a b ≤ 9223372036854775807 := by
  show _ ≤ IntKind.i64.wrap _ ∧ IntKind.i64.wrap _ ≤ _
  rw [IntKind.wrap_i64]; omega
theorem or_range (a b : Int) : -9223372036854775808 ≤ bits .or .i64 a b ∧ bits .or .i64 a b ≤ 9223372036854775807 := by
  show _ ≤ IntKind.i64.wrap _ ∧ IntKind.i64.wrap _ ≤ _
  rw [IntKind.wrap_i64]; omega
theorem xor_range (a b : Int) : -9223372036854775808 ≤ bits .xor .i64 a b ∧ bits .xor .i64 a b ≤ 9223372036854775807 := by
  show _ ≤ IntKind.i64.wrap _ ∧ IntKind.i64.wrap _ ≤ _
  rw [IntKind.wrap_i64]; omega

/-- What op makes of the bits. -/
def bitOp (op v w : Int) : Int := if op = 8 then bits .and .i64 v w else if op = 9 then bits .xor .i64 v w else bits .or .i64 v w
theorem bitOp_range (op v w : Int) : -9223372036854775808 ≤ bitOp op v w ∧ bitOp op v w ≤ 9223372036854775807 := by
  unfold bitOp
  split
  · exact and_range v w
  · split
    · exact xor_range v w
    · exact or_range v w
theorem bitOp_small (op v w : Int) (h1 : 0 ≤ v) (h2 : v ≤ 255) (h3 : 0 ≤ w) (h4 : w ≤ 255) : 0 ≤ bitOp op v w ∧ bitOp op v w ≤ 255 := by
  unfold bitOp
  split
  · have := and_left v w h1 (by omega); omega
  · split
    · have := xor_bounds v w 8 h1 h3 (by omega) (by omega) (by omega); omega
    · have := or_bounds v w 8 h1 h3 (by omega) (by omega) (by omega); omega
theorem bitOp_low (op k v w : Int) (hk : k = 1 ∨ k = 2) (h1 : fullLow k ≤ v) (h2 : v ≤ fullHigh k) (h3 : fullLow k ≤ w) (h4 : w ≤ fullHigh k) : low k (bitOp op v w) = bitOp op v w ∧ fullLow k ≤ bitOp op v w ∧ bitOp op v w ≤ fullHigh k := by
  rcases hk with rfl | rfl
  · have := bitOp_range op v w
    simp [low, fullLow, fullHigh]; omega
  · simp [fullLow, fullHigh] at h1 h2 h3 h4
    have := bitOp_small op v w h1 h2 h3 h4
    simp [low, fullLow, fullHigh]; omega

theorem bits_holds (op k a b c d v w : Int) (hk : k = 1 ∨ k = 2) (ha : fullLow k ≤ a) (hb : b ≤ fullHigh k) (hc : fullLow k ≤ c) (hd : d ≤ fullHigh k) (h1 : a ≤ v) (h2 : v ≤ b) (h3 : c ≤ w) (h4 : w ≤ d) (ho : op = 8 ∨ op = 9 ∨ op = 10) :
    (bitsS op k a b c d).1 ≤ low k (bitOp op v w) ∧ low k (bitOp op v w) ≤ (bitsS op k a b c d).2 := by
  have hl := bitOp_low op k v w hk (by omega) (by omega) (by omega) (by omega)
  have hH : fullHigh k ≤ 9223372036854775807 := by unfold fullHigh; split <;> (try split) <;> (try split) <;> omega
  rw [hl.1]
  unfold bitsS
  by_cases hs : a = b ∧ c = d
  · rw [if_pos hs]
    have e1 : v = a := by omega
    have e2 : w = c := by omega
    subst e1 e2
    exact ⟨Int.le_refl _, Int.le_refl _⟩
  · rw [if_neg hs]
    rcases ho with rfl | rfl | rfl
    · rw [if_pos rfl]
      have hb8 : bitOp 8 v w = bits .and .i64 v w := by simp [bitOp]
      by_cases c1 : 0 ≤ a ∧ 0 ≤ c
      · rw [if_pos c1, hb8]
        have := and_left v w (by omega) (by omega)
        have := and_right v w (by omega) (by omega)
        simp only; omega
      · rw [if_neg c1]
        by_cases c2 : 0 ≤ a
        · rw [if_pos c2, hb8]
          have := and_left v w (by omega) (by omega)
          simp only; omega
        · rw [if_neg c2]
          by_cases c3 : 0 ≤ c
          · rw [if_pos c3, hb8]
            have := and_right v w (by omega) (by omega)
            simp only; omega
          · rw [if_neg c3]; exact hl.2
    · rw [if_neg (by omega)]
      by_cases c1 : a < 0 ∨ c < 0
      · rw [if_pos c1]; exact hl.2
      · rw [if_neg c1, if_pos rfl]
        have hb9 : bitOp 9 v w = bits .xor .i64 v w := by simp [bitOp]
        obtain ⟨m, hm, e, hlt, _⟩ := ones_spec (max b d) (by omega) (by omega)
        have := xor_bounds v w m (by omega) (by omega) (by omega) (by omega) hm
        rw [hb9, e]; simp only; omega
    · rw [if_neg (by omega)]
      by_cases c1 : a < 0 ∨ c < 0
      · rw [if_pos c1]; exact hl.2
      · rw [if_neg c1, if_neg (by omega)]
        have hb10 : bitOp 10 v w = bits .or .i64 v w := by simp [bitOp]
        obtain ⟨m, hm, e, hlt, _⟩ := ones_spec (max b d) (by omega) (by omega)
        have := or_bounds v w m (by omega) (by omega) (by omega) (by omega) hm
        rw [hb10, e]; simp only; omega

/-- The absolute value. -/
def absS (n : Int) : Int := n.natAbs

/-- The range of a rest: m and M the least and the greatest absolute value of the divisors. -/
def restS (a b m M : Int) : Int × Int :=
  if absS a < m ∧ absS b < m then (a, b) else (if a < 0 then max a (1 - M) else 0, if 0 < b then min b (M - 1) else 0)

theorem rest_holds (a b m M v w : Int) (h1 : a ≤ v) (h2 : v ≤ b) (hm : m ≤ absS w) (hM : absS w ≤ M) (hw : w ≠ 0) :
    (restS a b m M).1 ≤ v.tmod w ∧ v.tmod w ≤ (restS a b m M).2 := by
  have t := tmod_bounds v w hw
  unfold restS absS at *
  by_cases hs : (a.natAbs : Int) < m ∧ (b.natAbs : Int) < m
  · rw [if_pos hs, tmod_small v w (by omega)]; exact ⟨h1, h2⟩
  · rw [if_neg hs]
    obtain ⟨t1, t2, t3, t4⟩ := t
    have t1' : v < 0 ∨ (0 ≤ v.tmod w ∧ v.tmod w ≤ v) := by
      by_cases h : 0 ≤ v
      · exact .inr (t1 h)
      · exact .inl (by omega)
    have t2' : 0 < v ∨ (v ≤ v.tmod w ∧ v.tmod w ≤ 0) := by
      by_cases h : v ≤ 0
      · exact .inr (t2 h)
      · exact .inl (by omega)
    constructor
    · simp only; split <;> omega
    · simp only; split <;> omega
end Go.Proofs.Ytomjcpgjlhencaa.RangesMath

/- The plain arithmetic of RangesContain: quotients and rests; the whole. -/
namespace Go.Proofs.Ytomjcpgjlhencaa.RangesMath
open Go Go.RowKit

structure Pr where
  a : Int
  b : Int
  c : Int
  d : Int
def Pr.lo (p : Pr) : Int := min4 (p.a.tdiv p.c) (p.a.tdiv p.d) (p.b.tdiv p.c) (p.b.tdiv p.d)
def Pr.hi (p : Pr) : Int := max4 (p.a.tdiv p.c) (p.a.tdiv p.d) (p.b.tdiv p.c) (p.b.tdiv p.d)
def hullLo : List Pr → Int
  | [] => 0
  | [p] => p.lo
  | p :: q :: l => min p.lo (hullLo (q :: l))
def hullHi : List Pr → Int
  | [] => 0
  | [p] => p.hi
  | p :: q :: l => max p.hi (hullHi (q :: l))

theorem hull_mem (l : List Pr) (p : Pr) (h : p ∈ l) : hullLo l ≤ p.lo ∧ p.hi ≤ hullHi l := by
  induction l with
  | nil => simp at h
  | cons x l ih =>
    cases l with
    | nil =>
      simp at h
      subst h
      exact ⟨Int.le_refl _, Int.le_refl _⟩
    | cons q l =>
      show min x.lo (hullLo (q :: l)) ≤ p.lo ∧ p.hi ≤ max x.hi (hullHi (q :: l))
      rcases List.mem_cons.1 h with rfl | h
      · omega
      · have := ih h; omega
theorem hull_in (l : List Pr) (L H : Int) (hl : l ≠ []) (h : ∀ p ∈ l, L ≤ p.lo ∧ p.hi ≤ H ∧ p.lo ≤ p.hi) : L ≤ hullLo l ∧ hullHi l ≤ H ∧ hullLo l ≤ hullHi l := by
  induction l with
  | nil => simp at hl
  | cons x l ih =>
    cases l with
    | nil => have := h x (by simp); exact this
    | cons q l =>
      have e := ih (by simp) (fun p hp => h p (by simp at hp ⊢; right; exact hp))
      have f := h x (by simp)
      show L ≤ min x.lo (hullLo (q :: l)) ∧ max x.hi (hullHi (q :: l)) ≤ H ∧ min x.lo (hullLo (q :: l)) ≤ max x.hi (hullHi (q :: l))
      omega
theorem Pr.le (p : Pr) : p.lo ≤ p.hi := by unfold Pr.lo Pr.hi min4 max4; omega
theorem Pr.mem (p : Pr) (v w : Int) (h1 : p.a ≤ v) (h2 : v ≤ p.b) (h3 : p.c ≤ w) (h4 : w ≤ p.d) (hc : 0 < p.c ∨ p.d < 0) : p.lo ≤ v.tdiv w ∧ v.tdiv w ≤ p.hi :=
  tdiv_corners p.a p.b p.c p.d v w h1 h2 h3 h4 hc

abbrev least : Int := -9223372036854775808
/-- Is there a pair of the least number and -1? -/
def undefB (k a c d : Int) : Bool := k == 1 && decide (a ≤ least) && decide (c ≤ -1) && decide (-1 ≤ d)
/-- The pairs of ranges that a quotient is made of. -/
def pairsS (k a b c d : Int) : List Pr :=
  (if c < 0 then (if undefB k a c d then (if c < -1 then [⟨a, b, c, -2⟩] else []) ++ (if least < b then [⟨least + 1, b, -1, -1⟩] else []) else [⟨a, b, c, min d (-1)⟩]) else []) ++
  (if 0 < d then [⟨a, b, max c 1, d⟩] else [])

theorem pairs_mem (k a b c d v w : Int) (ha : least ≤ a) (h1 : a ≤ v) (h2 : v ≤ b) (h3 : c ≤ w) (h4 : w ≤ d) (hw : w ≠ 0) (hu : ¬ (k = 1 ∧ v = least ∧ w = -1)) :
    ∃ p ∈ pairsS k a b c d, p.a ≤ v ∧ v ≤ p.b ∧ p.c ≤ w ∧ w ≤ p.d ∧ (0 < p.c ∨ p.d < 0) := by
  by_cases hp : 0 < w
  · refine ⟨⟨a, b, max c 1, d⟩, ?_, h1, h2, ?_, h4, ?_⟩
    · unfold pairsS; rw [if_pos (show 0 < d by omega)]; simp
    · simp only; omega
    · simp only; omega
  · have hc : c < 0 := by omega
    by_cases hb : undefB k a c d = true
    · by_cases hw1 : w = -1
      · have hk : k = 1 := by simp [undefB] at hb; exact hb.1.1.1
        have hv : least < v := by unfold least at *; omega
        refine ⟨⟨least + 1, b, -1, -1⟩, ?_, by simp only; omega, h2, by simp only; omega, by simp only; omega, by simp⟩
        unfold pairsS
        rw [if_pos hc, if_pos hb, if_pos (show least < b by omega)]; simp
      · refine ⟨⟨a, b, c, -2⟩, ?_, h1, h2, h3, by simp only; omega, by simp⟩
        unfold pairsS
        rw [if_pos hc, if_pos hb, if_pos (show c < -1 by omega)]; simp
    · refine ⟨⟨a, b, c, min d (-1)⟩, ?_, h1, h2, h3, by simp only; omega, by simp only; omega⟩
      unfold pairsS
      rw [if_pos hc, if_neg hb]; simp

theorem tdiv_abs (x y : Int) : (x.tdiv y).natAbs ≤ x.natAbs := by
  rw [Int.natAbs_tdiv]; exact Nat.div_le_self _ _
theorem tdiv_abs2 (x y : Int) (h : 2 ≤ y.natAbs) : (x.tdiv y).natAbs * 2 ≤ x.natAbs := by
  rw [Int.natAbs_tdiv]
  have := Nat.div_mul_le_self x.natAbs y.natAbs
  have h2 := Nat.mul_le_mul_left (x.natAbs / y.natAbs) h
  show x.natAbs / y.natAbs * 2 ≤ _
  omega
/-- A quotient of values of 64 bits is one, but for that of the least number by -1. -/
theorem tdiv_64 (x y : Int) (h1 : least ≤ x) (h2 : x ≤ 9223372036854775807) (hu : least < x ∨ y ≠ -1) : least ≤ x.tdiv y ∧ x.tdiv y ≤ 9223372036854775807 := by
  have e := tdiv_abs x y
  by_cases hx : least < x
  · unfold least at *; omega
  · by_cases hy : 2 ≤ y.natAbs
    · have := tdiv_abs2 x y hy; unfold least at *; omega
    · have : y = 0 ∨ y = 1 ∨ y = -1 := by omega
      rcases this with rfl | rfl | rfl
      · simp
      · rw [Int.tdiv_one]; omega
      · omega

theorem pairs_in (k a b c d : Int) (hk : k = 1 ∨ k = 2) (ha : fullLow k ≤ a) (hab : a ≤ b) (hb : b ≤ fullHigh k) (hc : fullLow k ≤ c) (hcd : c ≤ d) (hd : d ≤ fullHigh k) (p : Pr) (h : p ∈ pairsS k a b c d) :
    fullLow k ≤ p.lo ∧ p.hi ≤ fullHigh k ∧ p.lo ≤ p.hi := by
  refine ⟨?_, ?_, p.le⟩
  all_goals
    rcases hk with rfl | rfl
    · simp only [fullLow, fullHigh, if_true] at *
      have key : (least ≤ p.a ∧ p.a ≤ 9223372036854775807 ∧ least ≤ p.b ∧ p.b ≤ 9223372036854775807) ∧ (least < p.a ∨ (p.c ≠ -1 ∧ p.d ≠ -1)) ∧ (least < p.b ∨ (p.c ≠ -1 ∧ p.d ≠ -1)) := by
        unfold pairsS at h
        rcases List.mem_append.1 h with h | h
        · by_cases h0 : c < 0
          · rw [if_pos h0] at h
            by_cases hu : undefB 1 a c d = true
            · rw [if_pos hu] at h
              rcases List.mem_append.1 h with h | h
              · by_cases h5 : c < -1
                · rw [if_pos h5] at h; simp at h; subst h; simp only; unfold least at *; omega
                · rw [if_neg h5] at h; simp at h
              · by_cases h5 : least < b
                · rw [if_pos h5] at h; simp at h; subst h; simp only; unfold least at *; omega
                · rw [if_neg h5] at h; simp at h
            · rw [if_neg hu] at h; simp at h; subst h
              simp [undefB] at hu
              simp only; unfold least at *; omega
          · rw [if_neg h0] at h; simp at h
        · by_cases h0 : 0 < d
          · rw [if_pos h0] at h; simp at h; subst h; simp only; unfold least at *; omega
          · rw [if_neg h0] at h; simp at h
      obtain ⟨⟨k1, k2, k3, k4⟩, k5, k6⟩ := key
      have e1 := tdiv_64 p.a p.c k1 k2 (by rcases k5 with k5 | k5; exact .inl k5; exact .inr k5.1)
      have e2 := tdiv_64 p.a p.d k1 k2 (by rcases k5 with k5 | k5; exact .inl k5; exact .inr k5.2)
      have e3 := tdiv_64 p.b p.c k3 k4 (by rcases k6 with k5 | k5; exact .inl k5; exact .inr k5.1)
      have e4 := tdiv_64 p.b p.d k3 k4 (by rcases k6 with k5 | k5; exact .inl k5; exact .inr k5.2)
      simp only [Pr.lo, Pr.hi, min4, max4, least] at *; omega
    · simp only [fullLow, fullHigh, Int.reduceEq, if_true, if_false] at *
      unfold pairsS at h
      rw [if_neg (show ¬ c < 0 by omega)] at h
      by_cases h0 : 0 < d
      · rw [if_pos h0] at h; simp at h; subst h
        have q : ∀ x y : Int, 0 ≤ x → x ≤ 255 → 0 ≤ y → 0 ≤ x.tdiv y ∧ x.tdiv y ≤ 255 := fun x y g1 g2 g3 => by
          have e := tdiv_abs x y
          have f := Int.tdiv_nonneg g1 g3
          omega
        have e1 := q a (max c 1) (by omega) (by omega) (by omega)
        have e2 := q a d (by omega) (by omega) (by omega)
        have e3 := q b (max c 1) (by omega) (by omega) (by omega)
        have e4 := q b d (by omega) (by omega) (by omega)
        simp only [Pr.lo, Pr.hi, min4, max4]; omega
      · rw [if_neg h0] at h; simp at h
end Go.Proofs.Ytomjcpgjlhencaa.RangesMath
