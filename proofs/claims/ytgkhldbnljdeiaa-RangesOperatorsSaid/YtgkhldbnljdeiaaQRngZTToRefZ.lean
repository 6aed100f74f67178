/- RngZT, UnaryMath, RefE0, RefZ. -/
import Derived.Test.YtgkhldbnljdeiaaQLawOpsToRangesE
import Derived.Test.YtgkhldbnljdeiaaQRefNToRefO
import Derived.Test.YtgkhldbnljdeiaaQRngZToLowMath
import Derived.Test.YtgkhldbnljdeiaaQRefQToRefS
import Derived.Test.YtgkhldbnljdeiaaQRefT3ToRefX
import Derived.Test.YtgkhldbnljdeiaaQRefVToRefT0
import Derived.Test.YtgkhldbnljdeiaaQRefLToRangesB
import Derived.Test.YtgkhldbnljdeiaaQRefP1
import Derived.Test.YtgkhldbnljdeiaaQRefP4
import Derived.Test.YtgkhldbnljdeiaaQRefP5
import Derived.Test.YtgkhldbnljdeiaaQRefP6
import Derived.Test.YtgkhldbnljdeiaaQRefP7
set_option maxRecDepth 100000
set_option maxHeartbeats 2000000
set_option linter.unusedSimpArgs false
set_option linter.unusedVariables false
namespace Go.Proofs.Ytgkhldbnljdeiaa
open Go.RowKit RangesMath
attribute [local go_sem] World.setCell_self
/-- A call returns this range. -/
def RangeIs (x y : Int) (w : World) (e : Ending) (w' : World) : Prop := e = .returned (.agg #[.int .i64 x, .int .i64 y]) ∧ Below w.heap.size w w'
/-- Full of a kind. -/
def FullIs (k x y e : Int) : Prop := ∀ w, Hid (Calls Try.prog 11 #[.int .i64 k] w fun e' w' => e' = .returned (.tuple #[.agg #[.int .i64 x, .int .i64 y], .int .i64 e]) ∧ Below w.heap.size w w')
theorem pconj_lt (k a b c d : Int) (w : World) (h1 : decide (0 ≤ a) = true) (h2 : decide (0 ≤ c) = true) (h3 : b < d) :
   Calls Try.prog 85 #[.int .i64 k, .agg #[.int .i64 a, .int .i64 b], .agg #[.int .i64 c, .int .i64 d]] w (RangeIs 0 b w) := by
 go_enter Try.func85, Try.ntmps85
 go_wp2
 refine bodyPost_ret (v := .agg #[.int .i64 0, .int .i64 b]) (by simp [results, Try.results85, go_sem]) rfl ⟨rfl, ?_⟩
 exact (((Below.refl _ _).alloc (Nat.le_refl _) _).alloc (by simp) _).alloc (by simp; omega) _
theorem pconj_gt (k a b c d : Int) (w : World) (h1 : decide (0 ≤ a) = true) (h2 : decide (0 ≤ c) = true) (h3 : d < b) :
   Calls Try.prog 85 #[.int .i64 k, .agg #[.int .i64 a, .int .i64 b], .agg #[.int .i64 c, .int .i64 d]] w (RangeIs 0 d w) := by
 go_enter Try.func85, Try.ntmps85
 go_wp2
 refine bodyPost_ret (v := .agg #[.int .i64 0, .int .i64 d]) (by simp [results, Try.results85, go_sem]) rfl ⟨rfl, ?_⟩
 exact (((Below.refl _ _).alloc (Nat.le_refl _) _).alloc (by simp) _).alloc (by simp; omega) _
theorem pconj_eq (k a b c : Int) (w : World) (h1 : decide (0 ≤ a) = true) (h2 : decide (0 ≤ c) = true) :
   Calls Try.prog 85 #[.int .i64 k, .agg #[.int .i64 a, .int .i64 b], .agg #[.int .i64 c, .int .i64 b]] w (RangeIs 0 b w) := by
 go_enter Try.func85, Try.ntmps85
 go_wp2
 refine bodyPost_ret (v := .agg #[.int .i64 0, .int .i64 b]) (by simp [results, Try.results85, go_sem]) rfl ⟨rfl, ?_⟩
 exact (((Below.refl _ _).alloc (Nat.le_refl _) _).alloc (by simp) _).alloc (by simp; omega) _
theorem pconj_a (k a b c d : Int) (w : World) (h1 : decide (0 ≤ a) = true) (h2 : decide (0 ≤ c) = false) :
   Calls Try.prog 85 #[.int .i64 k, .agg #[.int .i64 a, .int .i64 b], .agg #[.int .i64 c, .int .i64 d]] w (RangeIs 0 b w) := by
 go_enter Try.func85, Try.ntmps85
 go_wp2
 refine bodyPost_ret (v := .agg #[.int .i64 0, .int .i64 b]) (by simp [results, Try.results85, go_sem]) rfl ⟨rfl, ?_⟩
 exact (((Below.refl _ _).alloc (Nat.le_refl _) _).alloc (by simp) _).alloc (by simp; omega) _
theorem pconj_c (k a b c d : Int) (w : World) (h1 : decide (0 ≤ a) = false) (h2 : decide (0 ≤ c) = true) :
   Calls Try.prog 85 #[.int .i64 k, .agg #[.int .i64 a, .int .i64 b], .agg #[.int .i64 c, .int .i64 d]] w (RangeIs 0 d w) := by
 go_enter Try.func85, Try.ntmps85
 go_wp2
 refine bodyPost_ret (v := .agg #[.int .i64 0, .int .i64 d]) (by simp [results, Try.results85, go_sem]) rfl ⟨rfl, ?_⟩
 exact (((Below.refl _ _).alloc (Nat.le_refl _) _).alloc (by simp) _).alloc (by simp; omega) _
theorem pconj_f (k a b c d x y e : Int) (w : World) (h1 : decide (0 ≤ a) = false) (h2 : decide (0 ≤ c) = false) (F : FullIs k x y e) :
   Calls Try.prog 85 #[.int .i64 k, .agg #[.int .i64 a, .int .i64 b], .agg #[.int .i64 c, .int .i64 d]] w (RangeIs x y w) := by
 go_enter Try.func85, Try.ntmps85
 go_wp2_with fail
 refine (F _).out.mono ?_
 rintro ee w1 ⟨rfl, hB1⟩
 have z1 : w.heap.size + 1 + 1 < w1.heap.size := by have := hB1.size; simp at this; omega
 have b1 : Below w.heap.size w w1 := ((((Below.refl _ _).alloc (Nat.le_refl _) _).alloc (by simp) _).alloc (by simp; omega) _).trans (hB1.mono (by simp; try omega))
 have c0 : w1.cell? ⟨w.heap.size + 1 + 1, 0, none⟩ = some (.int .i64 0) := cell_later hB1 (by go_simp)
 have c1 : w1.cell? ⟨w.heap.size + 1 + 1, 1, none⟩ = some (.int .i64 0) := cell_later hB1 (by go_simp)
 have f0 : w1.frozen? ⟨w.heap.size + 1 + 1, 0, none⟩ = false := keepFr hB1 (by simp; try omega) (by go_simp)
 have f1 : w1.frozen? ⟨w.heap.size + 1 + 1, 1, none⟩ = false := keepFr hB1 (by simp; try omega) (by go_simp)
 clear hB1
 go_wp2
 refine bodyPost_ret (v := .agg #[.int .i64 x, .int .i64 y]) (by simp [results, Try.results85, go_sem, c0, c1, z1]) rfl ⟨rfl, ?_⟩
 exact ((b1.setCell (by simp; try omega) _).setCell (by simp; try omega) _).alloc (by simp [World.setCell]; omega) _
theorem pfill_a (k l a b c d x y e : Int) (w : World) (h1 : decide (a < 0) = true) (F : FullIs k x y e) :
   Calls Try.prog 87 #[.int .i64 k, .int .i64 l, .agg #[.int .i64 a, .int .i64 b], .agg #[.int .i64 c, .int .i64 d]] w (RangeIs x y w) := by
 go_enter Try.func87, Try.ntmps87
 go_wp2_with fail
 refine (F _).out.mono ?_
 rintro ee w1 ⟨rfl, hB1⟩
 have z1 : w.heap.size + 1 + 1 < w1.heap.size := by have := hB1.size; simp at this; omega
 have b1 : Below w.heap.size w w1 := ((((Below.refl _ _).alloc (Nat.le_refl _) _).alloc (by simp) _).alloc (by simp; omega) _).trans (hB1.mono (by simp; try omega))
 have c0 : w1.cell? ⟨w.heap.size + 1 + 1, 0, none⟩ = some (.int .i64 0) := cell_later hB1 (by go_simp)
 have c1 : w1.cell? ⟨w.heap.size + 1 + 1, 1, none⟩ = some (.int .i64 0) := cell_later hB1 (by go_simp)
 have f0 : w1.frozen? ⟨w.heap.size + 1 + 1, 0, none⟩ = false := keepFr hB1 (by simp; try omega) (by go_simp)
 have f1 : w1.frozen? ⟨w.heap.size + 1 + 1, 1, none⟩ = false := keepFr hB1 (by simp; try omega) (by go_simp)
 clear hB1
 go_wp2
 refine bodyPost_ret (v := .agg #[.int .i64 x, .int .i64 y]) (by simp [results, Try.results87, go_sem, c0, c1, z1]) rfl ⟨rfl, ?_⟩
 exact ((b1.setCell (by simp; try omega) _).setCell (by simp; try omega) _).alloc (by simp [World.setCell]; omega) _
theorem pfill_c (k l a b c d x y e : Int) (w : World) (h1 : decide (a < 0) = false) (h2 : decide (c < 0) = true) (F : FullIs k x y e) :
   Calls Try.prog 87 #[.int .i64 k, .int .i64 l, .agg #[.int .i64 a, .int .i64 b], .agg #[.int .i64 c, .int .i64 d]] w (RangeIs x y w) := by
 go_enter Try.func87, Try.ntmps87
 go_wp2_with fail
 refine (F _).out.mono ?_
 rintro ee w1 ⟨rfl, hB1⟩
 have z1 : w.heap.size + 1 + 1 < w1.heap.size := by have := hB1.size; simp at this; omega
 have b1 : Below w.heap.size w w1 := ((((Below.refl _ _).alloc (Nat.le_refl _) _).alloc (by simp) _).alloc (by simp; omega) _).trans (hB1.mono (by simp; try omega))
 have c0 : w1.cell? ⟨w.heap.size + 1 + 1, 0, none⟩ = some (.int .i64 0) := cell_later hB1 (by go_simp)
 have c1 : w1.cell? ⟨w.heap.size + 1 + 1, 1, none⟩ = some (.int .i64 0) := cell_later hB1 (by go_simp)
 have f0 : w1.frozen? ⟨w.heap.size + 1 + 1, 0, none⟩ = false := keepFr hB1 (by simp; try omega) (by go_simp)
 have f1 : w1.frozen? ⟨w.heap.size + 1 + 1, 1, none⟩ = false := keepFr hB1 (by simp; try omega) (by go_simp)
 clear hB1
 go_wp2
 refine bodyPost_ret (v := .agg #[.int .i64 x, .int .i64 y]) (by simp [results, Try.results87, go_sem, c0, c1, z1]) rfl ⟨rfl, ?_⟩
 exact ((b1.setCell (by simp; try omega) _).setCell (by simp; try omega) _).alloc (by simp [World.setCell]; omega) _
theorem pfill_lt (k l a b c d n y : Int) (w : World) (h1 : decide (a < 0) = false) (h2 : decide (c < 0) = false) (h3 : b < d) (u : IntKind.u64.wrap d = d) (L : ∀ w, Hid (Calls Try.prog 113 #[.int .u64 d] w fun e w' => e = .returned (.int .i64 n) ∧ w = w')) (n0 : 0 ≤ n) (n1 : n ≤ 63) (hy : wrap64 (wrap64 (2 ^ n.toNat) - 1) = y) :
   Calls Try.prog 87 #[.int .i64 k, .int .i64 l, .agg #[.int .i64 a, .int .i64 b], .agg #[.int .i64 c, .int .i64 d]] w (RangeIs l y w) := by
 go_enter Try.func87, Try.ntmps87
 go_wp2_with fail
 refine (L _).out.mono ?_
 rintro ee w1 ⟨rfl, rfl⟩
 go_wp2
 refine bodyPost_ret (v := .agg #[.int .i64 l, .int .i64 y]) (by simp [results, Try.results87, go_sem]) rfl ⟨rfl, ?_⟩
 exact (((Below.refl _ _).alloc (Nat.le_refl _) _).alloc (by simp) _).alloc (by simp; omega) _
theorem pfill_ge (k l a b c d n y : Int) (w : World) (h1 : decide (a < 0) = false) (h2 : decide (c < 0) = false) (h3 : d ≤ b) (u : IntKind.u64.wrap b = b) (L : ∀ w, Hid (Calls Try.prog 113 #[.int .u64 b] w fun e w' => e = .returned (.int .i64 n) ∧ w = w')) (n0 : 0 ≤ n) (n1 : n ≤ 63) (hy : wrap64 (wrap64 (2 ^ n.toNat) - 1) = y) :
   Calls Try.prog 87 #[.int .i64 k, .int .i64 l, .agg #[.int .i64 a, .int .i64 b], .agg #[.int .i64 c, .int .i64 d]] w (RangeIs l y w) := by
 go_enter Try.func87, Try.ntmps87
 go_wp2_with fail
 refine (L _).out.mono ?_
 rintro ee w1 ⟨rfl, rfl⟩
 go_wp2
 refine bodyPost_ret (v := .agg #[.int .i64 l, .int .i64 y]) (by simp [results, Try.results87, go_sem]) rfl ⟨rfl, ?_⟩
 exact (((Below.refl _ _).alloc (Nat.le_refl _) _).alloc (by simp) _).alloc (by simp; omega) _
/-- The range around what & makes. -/
def conjS (k a b c d : Int) : Int × Int := if 0 ≤ a ∧ 0 ≤ c then (0, min b d) else if 0 ≤ a then (0, b) else if 0 ≤ c then (0, d) else (fullLow k, fullHigh k)
theorem pconj_any (k a b c d : Int) (w : World) : Calls Try.prog 85 #[.int .i64 k, .agg #[.int .i64 a, .int .i64 b], .agg #[.int .i64 c, .int .i64 d]] w (RangeIs (conjS k a b c d).1 (conjS k a b c d).2 w) := by
 by_cases ha : 0 ≤ a
 · by_cases hc : 0 ≤ c
   · have e : conjS k a b c d = (0, min b d) := by unfold conjS; rw [if_pos ⟨ha, hc⟩]
     rw [e]
     by_cases h1 : b < d
     · rw [show min b d = b by omega]
       exact pconj_lt k a b c d w (by simpa using ha) (by simpa using hc) h1
     by_cases h2 : d < b
     · rw [show min b d = d by omega]
       exact pconj_gt k a b c d w (by simpa using ha) (by simpa using hc) h2
     obtain rfl : d = b := by omega
     rw [show min d d = d by omega]
     exact pconj_eq k a d c w (by simpa using ha) (by simpa using hc)
   · have e : conjS k a b c d = (0, b) := by unfold conjS; rw [if_neg (by omega), if_pos ha]
     rw [e]
     exact pconj_a k a b c d w (by simpa using ha) (by simpa using hc)
 · by_cases hc : 0 ≤ c
   · have e : conjS k a b c d = (0, d) := by unfold conjS; rw [if_neg (by omega), if_neg ha, if_pos hc]
     rw [e]
     exact pconj_c k a b c d w (by simpa using ha) (by simpa using hc)
   · have e : conjS k a b c d = (fullLow k, fullHigh k) := by unfold conjS; rw [if_neg (by omega), if_neg ha, if_neg hc]
     rw [e]
     exact pconj_f k a b c d _ _ _ w (by simpa using ha) (by simpa using hc) (fun w => Lib.hid (pfull_any k w))
theorem ones_len (n : Int) : ones n = 2 ^ (lenS n).toNat - 1 := by
 unfold ones lenS
 split
 · rfl
 · rfl
theorem lenS_le (n : Int) (h : n ≤ 9223372036854775807) : 0 ≤ lenS n ∧ lenS n ≤ 63 := by
 unfold lenS
 split
 · omega
 · have : n.toNat.log2 < 63 := (Nat.log2_lt (by omega)).2 (by omega)
   omega
theorem shl_one (n : Int) (h0 : 0 ≤ n) (h1 : n ≤ 63) : wrap64 (wrap64 (2 ^ n.toNat) - 1) = 2 ^ n.toNat - 1 := by
 obtain ⟨m, rfl⟩ := Int.eq_ofNat_of_zero_le h0
 rw [Int.toNat_natCast]
 have p : (0 : Int) < 2 ^ m := Int.pow_pos (by decide)
 have q : (2 : Int) ^ m ≤ 2 ^ 63 := pow_mono m 63 (by omega)
 have q' : (2 : Int) ^ m ≤ 9223372036854775808 := q
 unfold wrap64
 omega
/-- The range around what | or ^ makes. -/
def fillS (k l a b c d : Int) : Int × Int := if a < 0 ∨ c < 0 then (fullLow k, fullHigh k) else (l, ones (max b d))
theorem pfill_any (k l a b c d : Int) (w : World) (hb : b ≤ 9223372036854775807) (hd : d ≤ 9223372036854775807) (h1 : a ≤ b) (h2 : c ≤ d) : Calls Try.prog 87 #[.int .i64 k, .int .i64 l, .agg #[.int .i64 a, .int .i64 b], .agg #[.int .i64 c, .int .i64 d]] w (RangeIs (fillS k l a b c d).1 (fillS k l a b c d).2 w) := by
 by_cases ha : a < 0
 · have e : fillS k l a b c d = (fullLow k, fullHigh k) := by unfold fillS; rw [if_pos (.inl ha)]
   rw [e]
   exact pfill_a k l a b c d _ _ _ w (by simpa using ha) (fun w => Lib.hid (pfull_any k w))
 by_cases hc : c < 0
 · have e : fillS k l a b c d = (fullLow k, fullHigh k) := by unfold fillS; rw [if_pos (.inr hc)]
   rw [e]
   exact pfill_c k l a b c d _ _ _ w (by simpa using ha) (by simpa using hc) (fun w => Lib.hid (pfull_any k w))
 have e : fillS k l a b c d = (l, ones (max b d)) := by unfold fillS; rw [if_neg (by omega)]
 rw [e]
 by_cases h : b < d
 · rw [show max b d = d by omega]
   have z := lenS_le d hd
   have s := shl_one _ z.1 z.2
   rw [← ones_len] at s
   exact pfill_lt k l a b c d _ _ w (by simpa using ha) (by simpa using hc) h (by rw [IntKind.wrap_u64]; omega) (fun w => Lib.hid (plen64 d w (by omega) (by omega))) z.1 z.2 s
 · rw [show max b d = b by omega]
   have z := lenS_le b hb
   have s := shl_one _ z.1 z.2
   rw [← ones_len] at s
   exact pfill_ge k l a b c d _ _ w (by simpa using ha) (by simpa using hc) (by omega) (by rw [IntKind.wrap_u64]; omega) (fun w => Lib.hid (plen64 b w (by omega) (by omega))) z.1 z.2 s
end Go.Proofs.Ytgkhldbnljdeiaa
namespace Go.Proofs.Ytgkhldbnljdeiaa
open Go.RowKit RangesMath
theorem xor_ones (v : Int) (h1 : -9223372036854775808 ≤ v) (h2 : v ≤ 9223372036854775807) : bits .xor .i64 (-1) v = -1 - v := by
 show IntKind.i64.wrap ((BitVec.ofInt 64 (-1) ^^^ BitVec.ofInt 64 v).toNat : Int) = _
 have e : BitVec.ofInt 64 (-1) = BitVec.allOnes 64 := by decide
 rw [e, BitVec.allOnes_xor, BitVec.toNat_not, BitVec.toNat_ofInt, IntKind.wrap_i64]
 omega
theorem broughtS_fin (l h k : Int) (o : Bool) (ho : o = (RangesMath.out64 l || RangesMath.out64 h)) : broughtS l h o k = fin l h k := by
 subst ho
 unfold broughtS fin
 by_cases h1 : (RangesMath.out64 l || RangesMath.out64 h) = true
 · rw [if_pos h1, if_pos h1]; rfl
 · rw [if_neg h1, if_neg h1]
   by_cases h2 : k = 1
   · rw [if_pos h2, if_pos h2]
   · rw [if_neg h2, if_neg h2]
     by_cases h3 : l / 256 = h / 256
     · rw [if_pos h3, if_pos h3]
       unfold low8; rw [low8_eq, low8_eq]
     · rw [if_neg h3, if_neg h3]; rfl
/-- What Unary returns as its error. -/
theorem unaryS_err (op k a b : Int) : (unaryS op k a b).2.2 = 0 ∨ (unaryS op k a b).2.2 = 2 := by
 unfold unaryS
 by_cases h : fits1 op k = true ∧ checkErr k a b = 0
 · rw [if_pos h]; left; (repeat' split) <;> rfl
 · rw [if_neg h]; right; rfl
theorem unaryS_ok (op k a b : Int) (h : (unaryS op k a b).2.2 = 0) : fits1 op k = true ∧ checkErr k a b = 0 := by
 unfold unaryS at h
 by_cases hh : fits1 op k = true ∧ checkErr k a b = 0
 · exact hh
 · rw [if_neg hh] at h; simp at h
theorem check_parts {k a b : Int} (h : checkErr k a b = 0) : (k = 1 ∨ k = 2 ∨ k = 3) ∧ a ≤ b ∧ fullLow k ≤ a ∧ b ≤ fullHigh k := by
 unfold checkErr fullErr at h
 by_cases hk : k = 1 ∨ k = 2 ∨ k = 3
 · rw [if_pos hk] at h
   by_cases hc : (0 : Int) = 0 ∧ a ≤ b ∧ fullLow k ≤ a ∧ b ≤ fullHigh k
   · exact ⟨hk, hc.2⟩
   · rw [if_neg hc] at h; simp at h
 · rw [if_neg hk, if_neg (by simp)] at h; simp at h
theorem check_mk {k a b : Int} (hk : k = 1 ∨ k = 2 ∨ k = 3) (h1 : a ≤ b) (h2 : fullLow k ≤ a) (h3 : b ≤ fullHigh k) : checkErr k a b = 0 := by
 unfold checkErr fullErr; rw [if_pos hk, if_pos ⟨rfl, h1, h2, h3⟩]
/-- What a unary operator makes of a value: the number behind the kind. -/
def unV (op v : Int) : Int := if op = 1 then wrap64 (-v) else if op = 2 then wrap64 (1 - v) else bits .xor .i64 (-1) v
theorem unaryS_neg (k a b : Int) (hf : fits1 1 k = true) (hc : checkErr k a b = 0) : ((unaryS 1 k a b).1, (unaryS 1 k a b).2.1) = fin (0 - b) (0 - a) k := by
 have hp := check_parts hc
 have h64 := check_ok64 hc
 have l1 := h64.lo; have l2 := h64.hi; have l3 := h64.le
 unfold unaryS
 rw [if_pos ⟨hf, hc⟩, if_pos rfl]
 simp only
 by_cases ho : out64 (0 - a) = true
 · -- a is the least number
   have ha : a = -9223372036854775808 := by simp [out64] at ho; omega
   have hr : (out64 (0 - a) || out64 (0 - b) || out64 (0 - a) || out64 (0 - b)) = true := by rw [ho]; simp only [Bool.true_or]
   rw [hr]
   have hf' : (RangesMath.out64 (0 - b) || RangesMath.out64 (0 - a)) = true := by
     have : RangesMath.out64 (0 - a) = true := ho
     rw [this, Bool.or_true]
   unfold fin broughtS
   rw [if_pos hf', if_pos rfl]; rfl
 · have hb : out64 (0 - b) = false := by simp [out64] at ho ⊢; omega
   have ha : out64 (0 - a) = false := by simpa using ho
   rw [ha, hb]
   have w1 : wrap64 (0 - a) = 0 - a := by simp [out64] at ha; exact wrap64_same _ (by omega)
   have w2 : wrap64 (0 - b) = 0 - b := by simp [out64] at hb; exact wrap64_same _ (by omega)
   rw [w1, w2]
   have m1 : min (min (min (0 - a) (0 - b)) (0 - a)) (0 - b) = 0 - b := by omega
   have m2 : max (max (max (0 - a) (0 - b)) (0 - a)) (0 - b) = 0 - a := by omega
   rw [m1, m2]
   have := broughtS_fin (0 - b) (0 - a) k false (by
     have q1 : RangesMath.out64 (0 - b) = false := hb
     have q2 : RangesMath.out64 (0 - a) = false := ha
     rw [q1, q2]; rfl)
   simpa using this
theorem unary_holds (op k a b v : Int) (ho : op = 1 ∨ op = 2 ∨ op = 3) (h : (unaryS op k a b).2.2 = 0) (hv : Ok64 a b → a ≤ v ∧ v ≤ b) :
   checkErr k (unaryS op k a b).1 (unaryS op k a b).2.1 = 0 ∧ (unaryS op k a b).1 ≤ low k (unV op v) ∧ low k (unV op v) ≤ (unaryS op k a b).2.1 := by
 obtain ⟨hf, hc⟩ := unaryS_ok op k a b h
 have hp := check_parts hc
 have h64 := check_ok64 hc
 have l1 := h64.lo; have l2 := h64.hi; have l3 := h64.le
 have hv := hv h64
 have hf' := hf
 simp only [fits1, decide_eq_true_eq] at hf'
 rcases ho with rfl | rfl | rfl
 · have hk : k = 1 ∨ k = 2 := by omega
   have e := unaryS_neg k a b hf hc
   have e1 : (unaryS 1 k a b).1 = (fin (0 - b) (0 - a) k).1 := congrArg Prod.fst e
   have e2 : (unaryS 1 k a b).2.1 = (fin (0 - b) (0 - a) k).2 := congrArg Prod.snd e
   rw [e1, e2]
   have f1 := fin_holds (0 - b) (0 - a) k (-v) hk (by omega) (by omega)
   have f2 := fin_ok (0 - b) (0 - a) k hk (by omega)
   exact ⟨check_mk hp.1 f2.2.1 f2.1 f2.2.2, f1⟩
 · obtain rfl : k = 3 := by omega
   have e : unaryS 2 3 a b = (1 - b, 1 - a, 0) := by unfold unaryS; rw [if_pos ⟨hf, hc⟩]; rfl
   rw [e]
   have q := hp.2
   simp only [fullLow, fullHigh, Int.reduceEq, if_true, if_false] at q
   have hw : unV 2 v = 1 - v := by show wrap64 (1 - v) = _; unfold wrap64; omega
   rw [hw]
   refine ⟨check_mk (by simp) ?_ ?_ ?_, ?_, ?_⟩
   · simp only; omega
   · simp only [fullLow, Int.reduceEq, if_false]; omega
   · simp only [fullHigh, Int.reduceEq, if_true, if_false]; omega
   · show 1 - b ≤ 1 - v; omega
   · show 1 - v ≤ 1 - a; omega
 · have hx : unV 3 v = -1 - v := xor_ones v (by omega) (by omega)
   rw [hx]
   have hk : k = 1 ∨ k = 2 := by omega
   rcases hk with rfl | rfl
   · have e : unaryS 3 1 a b = (-1 - b, -1 - a, 0) := by unfold unaryS; rw [if_pos ⟨hf, hc⟩]; rfl
     rw [e]
     refine ⟨check_mk (by simp) ?_ ?_ ?_, ?_, ?_⟩
     · simp only; omega
     · simp only [fullLow, if_true]; omega
     · simp only [fullHigh, if_true]; omega
     · show -1 - b ≤ -1 - v; omega
     · show -1 - v ≤ -1 - a; omega
   · have e : unaryS 3 2 a b = (255 - b, 255 - a, 0) := by unfold unaryS; rw [if_pos ⟨hf, hc⟩]; rfl
     rw [e]
     have q := hp.2
     simp only [fullLow, fullHigh, Int.reduceEq, if_true, if_false] at q
     have hw : low 2 (-1 - v) = 255 - v := by show (-1 - v) % 256 = _; omega
     rw [hw]
     refine ⟨check_mk (by simp) ?_ ?_ ?_, ?_, ?_⟩
     · simp only; omega
     · simp only [fullLow, Int.reduceEq, if_false]; omega
     · simp only [fullHigh, Int.reduceEq, if_true, if_false]; omega
     · show 255 - b ≤ 255 - v; omega
     · show 255 - v ≤ 255 - a; omega
theorem toSmall_holds (a b v : Int) (h : (toSmallS a b).2.2 = 0) (hv : Ok64 a b → a ≤ v ∧ v ≤ b) :
   (toSmallS a b).1 ≤ bits .and .i64 v 255 ∧ bits .and .i64 v 255 ≤ (toSmallS a b).2.1 ∧ 0 ≤ (toSmallS a b).1 ∧ (toSmallS a b).2.1 ≤ 255 := by
 unfold toSmallS at *
 by_cases hc : checkErr 1 a b = 0
 · rw [if_pos hc]
   have h64 := check_ok64 hc
   have l1 := h64.lo; have l2 := h64.hi; have l3 := h64.le
   have hv := hv h64
   have e := broughtS_fin a b 2 false (by simp [RangesMath.out64]; omega)
   rw [e]
   have f1 := fin_holds a b 2 v (by simp) hv.1 hv.2
   have f2 := fin_ok a b 2 (by simp) (by omega)
   have w : wrap64 v = v := wrap64_same _ (by omega)
   rw [w] at f1
   have e2 : low 2 v = bits .and .i64 v 255 := low_sml rfl v
   rw [e2] at f1
   simp only [RangesMath.fullLow, RangesMath.fullHigh, Int.reduceEq, if_true, if_false] at f2
   exact ⟨f1.1, f1.2, f2.1, f2.2.2⟩
 · rw [if_neg hc] at h; simp at h
end Go.Proofs.Ytgkhldbnljdeiaa
namespace Go.Proofs.Ytgkhldbnljdeiaa
open Go.RowKit
theorem wrap_double (x : Int) : wrap64 (wrap64 x + wrap64 x) = wrap64 (x * 2) := by
 unfold wrap64; omega
def ShiftOut (a : Int) (n : Nat) (w : World) (e : Ending) (w' : World) : Prop := e = .returned (.tuple #[.int .i64 (wrap64 (a * 2 ^ n)), .bool (out64 (a * 2 ^ n))]) ∧ w = w'
def ShiftVal (a : Int) (n k : Nat) (m : Int) (o : Bool) : Prop := k ≤ n ∧ o = out64 (a * 2 ^ k) ∧ In64 m ∧ (out64 (a * 2 ^ k) = false → m = a * 2 ^ k) ∧ m = wrap64 (a * 2 ^ k)
theorem shifted_val (a : Int) (n : Nat) (w : World) (ha : In64 a) (hn : (n : Int) ≤ 63) :
   Calls Try.prog 56 #[.int .i64 a, .int .i64 n] w (ShiftOut a n w) := by
 have hin := Lib.hid ha
 clear ha
 go_enter Try.func56, Try.ntmps56
 go_wp2
 go_loop [6, 7, 8] (fun x o i => ∃ (k : Nat) (m : Int) (b : Bool), x = .int .i64 m ∧ o = .bool b ∧ i = .int .i64 k ∧ ShiftVal a n k m b) (fun _ _ i => (n - intOf i).toNat)
 case atStart => exact ⟨0, a, false, rfl, rfl, rfl, Nat.zero_le _, by have h1 := hin.out.lo; have h2 := hin.out.hi; simp [out64]; omega, hin.out, fun _ => by simp, by have h1 := hin.out.lo; have h2 := hin.out.hi; simp; exact (wrap64_same a ⟨h1, h2⟩).symm⟩
 case round =>
   obtain ⟨k, m, b, rfl, rfl, rfl, hm⟩ := hrel
   have hk : k ≤ n := hm.1
   have HM := Lib.hid hm
   clear hm
   by_cases hlt : k < n
   · go_wp2_with fail
     refine (sum_any m m _ HM.out.2.2.1 HM.out.2.2.1).mono ?_
     rintro e w' ⟨rfl, rfl⟩
     have hstep := out_step _ _ HM.out.2.2.2.1
     have hdbl := wrap_double (a * 2 ^ k)
     rw [← HM.out.2.2.2.2] at hdbl
     have hr := wrap64_range (m + m)
     have HN := Lib.hid (show ShiftVal a n (k + 1) (wrap64 (m + m)) (b || out64 (m + m)) from ⟨hlt, by rw [HM.out.2.1, hstep, Int.pow_succ, Int.mul_assoc], ⟨hr.1, hr.2⟩, fun h => by rw [Int.pow_succ, ← Int.mul_assoc] at h ⊢; exact double_same _ _ HM.out.2.2.2.1 h, by rw [Int.pow_succ, ← Int.mul_assoc]; exact hdbl⟩)
     clear hstep hr hdbl
     generalize wrap64 (m + m) = m' at *
     generalize out64 (m + m) = o' at *
     cases b
     all_goals
       go_wp2
       go_round
       case rel => exact ⟨k + 1, m', _, rfl, rfl, by go_num, by simpa using HN.out⟩
       case measure => simp [intOf]; omega
   · go_wp2
     go_ret2
     have hkn : k = n := by omega
     subst hkn
     obtain ⟨_, hb, h64, hval, hw⟩ := HM.out
     exact ⟨by rw [← hb, ← hw]; rfl, rfl⟩
theorem corner_fin (x0 x1 x2 x3 k : Int) : broughtS (min (min (min (wrap64 x0) (wrap64 x1)) (wrap64 x2)) (wrap64 x3)) (max (max (max (wrap64 x0) (wrap64 x1)) (wrap64 x2)) (wrap64 x3)) (((out64 x0 || out64 x1) || out64 x2) || out64 x3) k = RangesMath.fin (RangesMath.min4 x0 x1 x2 x3) (RangesMath.max4 x0 x1 x2 x3) k := by
 by_cases h : (((out64 x0 || out64 x1) || out64 x2) || out64 x3) = true
 · have hf : (RangesMath.out64 (RangesMath.min4 x0 x1 x2 x3) || RangesMath.out64 (RangesMath.max4 x0 x1 x2 x3)) = true := by
     unfold RangesMath.min4 RangesMath.max4 RangesMath.out64
     unfold out64 at h
     simp only [Bool.or_eq_true, decide_eq_true_eq] at h ⊢
     omega
   unfold broughtS RangesMath.fin
   rw [if_pos h, if_pos hf]
   rfl
 · simp only [Bool.not_eq_true] at h
   rw [h]
   have h' := h
   unfold out64 at h'
   simp only [Bool.or_eq_false_iff, decide_eq_false_iff_not] at h'
   rw [wrap64_same x0 (by omega), wrap64_same x1 (by omega), wrap64_same x2 (by omega), wrap64_same x3 (by omega)]
   have e1 : min (min (min x0 x1) x2) x3 = RangesMath.min4 x0 x1 x2 x3 := by unfold RangesMath.min4; omega
   have e2 : max (max (max x0 x1) x2) x3 = RangesMath.max4 x0 x1 x2 x3 := by unfold RangesMath.max4; omega
   rw [e1, e2]
   apply broughtS_fin
   symm
   unfold RangesMath.min4 RangesMath.max4 RangesMath.out64
   simp only [Bool.or_eq_false_iff, decide_eq_false_iff_not]
   omega
/-- corners and brought, one behind the other: the range that an operator of sums, differences or products makes. -/
def SpanOut (op a b c d l h : Int) (o : Bool) : Prop := ∀ w, Hid (Calls Try.prog 36 #[.int .i64 op, .agg #[.int .i64 a, .int .i64 b], .agg #[.int .i64 c, .int .i64 d]] w fun e w' => e = .returned (.agg #[.int .i64 l, .int .i64 h, .bool o]) ∧ Below w.heap.size w w')
theorem corners_mul_any (a b c d : Int) (ha : In64 a) (hb : In64 b) (hc : In64 c) (hd : In64 d) : SpanOut 1 a b c d (min (min (min (wrap64 (a * c)) (wrap64 (a * d))) (wrap64 (b * c))) (wrap64 (b * d))) (max (max (max (wrap64 (a * c)) (wrap64 (a * d))) (wrap64 (b * c))) (wrap64 (b * d))) (((out64 (a * c) || out64 (a * d)) || out64 (b * c)) || out64 (b * d)) :=
 fun w => Lib.hid (corners_mul a b c d w _ _ _ _ _ _ _ _ (fun w => Lib.hid (product_any a c w ha hc)) (fun w => Lib.hid (product_any a d w ha hd)) (fun w => Lib.hid (product_any b c w hb hc)) (fun w => Lib.hid (product_any b d w hb hd)))
theorem corners_add_any (a b c d : Int) (ha : In64 a) (hb : In64 b) (hc : In64 c) (hd : In64 d) : SpanOut 4 a b c d (min (min (min (wrap64 (a + c)) (wrap64 (a + d))) (wrap64 (b + c))) (wrap64 (b + d))) (max (max (max (wrap64 (a + c)) (wrap64 (a + d))) (wrap64 (b + c))) (wrap64 (b + d))) (((out64 (a + c) || out64 (a + d)) || out64 (b + c)) || out64 (b + d)) :=
 have g : ∀ x y : Int, In64 x → In64 y → ∀ w, Hid (Calls Try.prog 53 #[.int .i64 x, .int .i64 y] w fun e w' => e = .returned (.tuple #[.int .i64 (wrap64 (x + y)), .bool (out64 (x + y))]) ∧ Below w.heap.size w w') := fun x y hx hy w => Lib.hid ((sum_any x y w hx hy).mono fun _ w' h => ⟨h.1, h.2 ▸ Below.refl w.heap.size w⟩)
 fun w => Lib.hid (corners_add a b c d w _ _ _ _ _ _ _ _ (g a c ha hc) (g a d ha hd) (g b c hb hc) (g b d hb hd))
theorem corners_sub_any (a b c d : Int) (ha : In64 a) (hb : In64 b) (hc : In64 c) (hd : In64 d) : SpanOut 5 a b c d (min (min (min (wrap64 (a - c)) (wrap64 (a - d))) (wrap64 (b - c))) (wrap64 (b - d))) (max (max (max (wrap64 (a - c)) (wrap64 (a - d))) (wrap64 (b - c))) (wrap64 (b - d))) (((out64 (a - c) || out64 (a - d)) || out64 (b - c)) || out64 (b - d)) :=
 have g : ∀ x y : Int, In64 x → In64 y → ∀ w, Hid (Calls Try.prog 54 #[.int .i64 x, .int .i64 y] w fun e w' => e = .returned (.tuple #[.int .i64 (wrap64 (x - y)), .bool (out64 (x - y))]) ∧ Below w.heap.size w w') := fun x y hx hy w => Lib.hid ((difference_any x y w hx hy).mono fun _ w' h => ⟨h.1, h.2 ▸ Below.refl w.heap.size w⟩)
 fun w => Lib.hid (corners_sub a b c d w _ _ _ _ _ _ _ _ (g a c ha hc) (g a d ha hd) (g b c hb hc) (g b d hb hd))
theorem corners_shl_any (a b : Int) (c d : Nat) (ha : In64 a) (hb : In64 b) (hc : (c : Int) ≤ 63) (hd : (d : Int) ≤ 63) : SpanOut 6 a b c d (min (min (min (wrap64 (a * 2 ^ c)) (wrap64 (a * 2 ^ d))) (wrap64 (b * 2 ^ c))) (wrap64 (b * 2 ^ d))) (max (max (max (wrap64 (a * 2 ^ c)) (wrap64 (a * 2 ^ d))) (wrap64 (b * 2 ^ c))) (wrap64 (b * 2 ^ d))) (((out64 (a * 2 ^ c) || out64 (a * 2 ^ d)) || out64 (b * 2 ^ c)) || out64 (b * 2 ^ d)) :=
 have g : ∀ (x : Int) (n : Nat), In64 x → (n : Int) ≤ 63 → ∀ w, Hid (Calls Try.prog 56 #[.int .i64 x, .int .i64 n] w fun e w' => e = .returned (.tuple #[.int .i64 (wrap64 (x * 2 ^ n)), .bool (out64 (x * 2 ^ n))]) ∧ Below w.heap.size w w') := fun x n hx hn w => Lib.hid ((shifted_val x n w hx hn).mono fun _ w' h => ⟨h.1, h.2 ▸ Below.refl w.heap.size w⟩)
 fun w => Lib.hid (corners_shl a b c d w _ _ _ _ _ _ _ _ (g a c ha hc) (g a d ha hd) (g b c hb hc) (g b d hb hd))
def BitsOut (op k a b c d : Int) (w : World) (e : Ending) (w' : World) : Prop := e = .returned (.agg #[.int .i64 (RangesMath.bitsS op k a b c d).1, .int .i64 (RangesMath.bitsS op k a b c d).2]) ∧ Below w.heap.size w w'
theorem bits_any (op k a b c d : Int) (w : World) (o1 : 8 ≤ op) (o2 : op ≤ 10) (hab : a ≤ b) (hcd : c ≤ d) (hb : b ≤ 9223372036854775807) (hd : d ≤ 9223372036854775807) :
   Calls Try.prog 40 #[.int .i64 op, .int .i64 k, .agg #[.int .i64 a, .int .i64 b], .agg #[.int .i64 c, .int .i64 d]] w (BitsOut op k a b c d w) := by
 have F : RangesMath.fullLow k = fullLow k := rfl
 have G : RangesMath.fullHigh k = fullHigh k := rfl
 unfold BitsOut
 by_cases hs : a = b ∧ c = d
 · have e : RangesMath.bitsS op k a b c d = (RangesMath.bitOp op a c, RangesMath.bitOp op a c) := by
     unfold RangesMath.bitsS RangesMath.bitOp; rw [if_pos hs]
   rw [e]
   refine bits_one op k a b c d _ w (by simpa using hs.1) (by simpa using hs.2) ?_
   obtain rfl | rfl | rfl : op = 8 ∨ op = 9 ∨ op = 10 := by omega
   · exact .inl ⟨rfl, rfl⟩
   · exact .inr (.inl ⟨rfl, rfl⟩)
   · exact .inr (.inr ⟨rfl, rfl⟩)
 · have hs' : (a == b) = false ∨ ((a == b) = true ∧ (c == d) = false) := by
     by_cases h1 : a = b
     · exact .inr ⟨by simpa using h1, by simpa using fun h2 => hs ⟨h1, h2⟩⟩
     · exact .inl (by simpa using h1)
   unfold RangesMath.bitsS
   rw [if_neg hs]
   by_cases h8 : op = 8
   · subst h8
     rw [if_pos rfl]
     refine rbits_and k a b c d _ _ w hs' ?_
     by_cases ha : 0 ≤ a
     · by_cases hc : 0 ≤ c
       · rw [if_pos ⟨ha, hc⟩]; exact .inl ⟨ha, hc, rfl, rfl⟩
       · rw [if_neg (fun h => hc h.2), if_pos ha]; exact .inr (.inl ⟨ha, by simpa using hc, rfl, rfl⟩)
     · rw [if_neg (fun h => ha h.1), if_neg ha]
       by_cases hc : 0 ≤ c
       · rw [if_pos hc]; exact .inr (.inr (.inl ⟨by simpa using ha, hc, rfl, rfl⟩))
       · rw [if_neg hc]; exact .inr (.inr (.inr ⟨by simpa using ha, by simpa using hc, rfl, rfl⟩))
   · rw [if_neg h8]
     by_cases hn : a < 0 ∨ c < 0
     · rw [if_pos hn]
       exact bits_low op k a b c d _ _ w (by simpa using h8) hs' rfl rfl (by by_cases h0 : a < 0; exact .inl h0; exact .inr ⟨by simpa using h0, hn.resolve_left h0⟩)
     · rw [if_neg hn]
       have h9 : op = 9 ∨ (op == 9) = false := by by_cases h9 : op = 9; exact .inl h9; exact .inr (by simpa using h9)
       rcases h9 with rfl | h9
       · rw [if_pos rfl]
         exact bits_up 9 k a b c d _ _ w (.inl ⟨by simp, rfl, rfl⟩) hs' (by omega) (by omega) (Lib.hid (by omega)) (Lib.hid hb) (Lib.hid hd) (Lib.hid rfl)
       · rw [if_neg (by simpa using h9)]
         exact bits_up op k a b c d _ _ w (.inr ⟨by simpa using h8, h9, rfl⟩) hs' (by omega) (by omega) (Lib.hid (by omega)) (Lib.hid hb) (Lib.hid hd) (Lib.hid rfl)
end Go.Proofs.Ytgkhldbnljdeiaa
namespace Go.Proofs.Ytgkhldbnljdeiaa
open Go.RowKit
structure RestIn (w wx : World) (a b : Int) (g : Nat) (cs : List Value) : Prop where
 one : OneIn w wx a b
 row : ∀ i v, cs[i]? = some v → wx.cell? ⟨g, i, none⟩ = some v
theorem RestIn.drew {w wx : World} {a b : Int} {g : Nat} {cs : List Value} (h : RestIn w wx a b g cs) : RestIn w wx.drew a b g cs :=
 ⟨h.one.later (Below.refl _ _).drew, fun i v hv => cell_later (Below.refl _ _).drew (h.row i v hv)⟩
theorem restIn (w : World) (a b : Int) (g : Nat) (cs : List Value) (hg : g < w.heap.size) (row : ∀ i v, cs[i]? = some v → w.cell? ⟨g, i, none⟩ = some v) :
   RestIn w ((w.alloc (.cells #[.int .i64 a, .int .i64 b] 23)).alloc (.cells #[.int .i64 0, .int .i64 0] 23)) a b g cs :=
 ⟨oneIn w a b, fun i v hv => (oneIn w a b).bl.cell (p := ⟨g, i, none⟩) hg ▸ row i v hv⟩
/-- What rest makes of the least and the greatest absolute value of the divisors. -/
def RestIs (a b A B L H x y : Int) : Prop := (x, y) = if A < L ∧ B < L then (a, b) else (if a < 0 then max a (1 - H) else 0, if 0 < b then min b (H - 1) else 0)
theorem rest_same {a b A B L H x y : Int} (h : RestIs a b A B L H x y) (hA : A < L) (hB : B < L) : a = x ∧ b = y := by
 unfold RestIs at h
 rw [if_pos ⟨hA, hB⟩] at h
 simp at h
 omega
theorem rest_parts {a b A B L M x y : Int} (h : RestIs a b A B L (M + 1) x y) (hn : ¬ (A < L ∧ B < L)) : ((a < 0 ∧ -M ≤ a ∧ a = x) ∨ (a < 0 ∧ a < -M ∧ -M = x) ∨ (decide (a < 0) = false ∧ 0 = x)) ∧ ((0 < b ∧ b ≤ M ∧ b = y) ∨ (0 < b ∧ M < b ∧ M = y) ∨ (decide (0 < b) = false ∧ 0 = y)) := by
 unfold RestIs at h
 rw [if_neg hn] at h
 simp only [Prod.mk.injEq] at h
 obtain ⟨h1, h2⟩ := h
 simp only [decide_eq_false_iff_not]
 constructor
 · by_cases ha : a < 0
   · rw [if_pos ha] at h1; omega
   · rw [if_neg ha] at h1; omega
 · by_cases hb : 0 < b
   · rw [if_pos hb] at h2; omega
   · rw [if_neg hb] at h2; omega
end Go.Proofs.Ytgkhldbnljdeiaa
