/- LawLeftNo, LeftMath. -/
import Derived.RegionTactic
import Derived.BigRegion
import Derived.Deep.RegionHeld3
import Derived.Deep.DeepCutAuto
import Derived.Deep.CutBlock
import Derived.Test.YtomjcpgjlhencaaKLawLeft
import Derived.Test.YtomjcpgjlhencaaKLawDone3ToLawAssume
import Derived.Test.YtomjcpgjlhencaaKRefIToRangesD
import Derived.Test.YtomjcpgjlhencaaKRefJToLawSets
set_option linter.unusedSimpArgs false
set_option linter.unusedVariables false
/- The walk of the law RangesLeft where Assume returns an error. -/
namespace Go.Proofs.Ytomjcpgjlhencaa
open Go.RowKit

set_option maxRecDepth 100000 in
set_option maxHeartbeats 2000000 in
theorem left_no (hs : ShownOK') (o k a b c d P Q : Int) (w : World) 
    (hA : ∀ (w : World), Hid (Calls Try.prog 25 #[.int .i64 o, .int .i64 k, .agg #[.int .i64 a, .int .i64 b], .agg #[.int .i64 c, .int .i64 d], .bool false] w fun t w' => t = .returned (.tuple #[.agg #[.int .i64 0, .int .i64 0], .agg #[.int .i64 0, .int .i64 0], .bool false, .int .i64 2]) ∧ Below w.heap.size w w')) :
    Calls Try.prog 8 #[.agg #[.int .i64 o, .int .i64 k], .agg #[.int .i64 a, .int .i64 b, .int .i64 c, .int .i64 d], .agg #[.int .u64 P, .int .u64 Q]] w fun e w' => e = .returned (.bool true) ∧ Below w.heap.size w w' := by
  go_enter Try.func8, Try.ntmps8
  go_wp2_with fail
  refine (hs _).mono ?_
  rintro e1 w1 ⟨rfl, hB1⟩
  have z0 : w.heap.size + 1 + 1 < w1.heap.size := by have := hB1.size; simp at this; omega
  have z1 : w.heap.size + 1 < w1.heap.size := by omega
  have z2 : w.heap.size < w1.heap.size := by omega
  have o0 : w1.cell? ⟨w.heap.size, 0, none⟩ = some (.int .i64 o) := cell_later hB1 (by go_simp)
  have o1 : w1.cell? ⟨w.heap.size, 1, none⟩ = some (.int .i64 k) := cell_later hB1 (by go_simp)
  have l0 : w1.cell? ⟨w.heap.size + 1, 0, none⟩ = some (.int .i64 a) := cell_later hB1 (by go_simp)
  have l1 : w1.cell? ⟨w.heap.size + 1, 1, none⟩ = some (.int .i64 b) := cell_later hB1 (by go_simp)
  have l2 : w1.cell? ⟨w.heap.size + 1, 2, none⟩ = some (.int .i64 c) := cell_later hB1 (by go_simp)
  have l3 : w1.cell? ⟨w.heap.size + 1, 3, none⟩ = some (.int .i64 d) := cell_later hB1 (by go_simp)
  have n0 : w1.cell? ⟨w.heap.size + 1 + 1, 0, none⟩ = some (.int .u64 P) := cell_later hB1 (by go_simp)
  have n1 : w1.cell? ⟨w.heap.size + 1 + 1, 1, none⟩ = some (.int .u64 Q) := cell_later hB1 (by go_simp)
  have hT : Below w.heap.size w w1 := ((((Below.refl _ _).alloc (Nat.le_refl _) _).alloc (by simp) _).alloc (by simp; omega) _).trans (hB1.mono (by simp; omega))
  clear hB1
  go_upto_region 3 with fail
  go_cut [7, 8] (fun s7 s8 wx => ∃ p q : Nat, s7 = .pointer (some ⟨p, 0, none⟩) ∧ s8 = .pointer (some ⟨q, 0, none⟩) ∧ LeftIn w wx o k a b c d P Q p q)
  case first =>
    go_region
    · go_wp2
      go_meet
      exact ⟨w1.heap.size, w1.heap.size + 1, rfl, rfl, by go_simp, by go_simp, by go_simp, by go_simp, by go_simp, by go_simp, by go_simp, by go_simp, by (simp; try omega), by (simp; try omega), by (simp; try omega), by (simp; try omega), ((hT.alloc (by omega) _).alloc (by simp; omega) _).drew⟩
    · go_wp2
      go_meet
      exact ⟨w1.heap.size + 1, w1.heap.size, rfl, rfl, by go_simp, by go_simp, by go_simp, by go_simp, by go_simp, by go_simp, by go_simp, by go_simp, by (simp; try omega), by (simp; try omega), by (simp; try omega), by (simp; try omega), ((hT.alloc (by omega) _).alloc (by simp; omega) _).drew⟩
  case rest =>
    obtain ⟨p, q, rfl, rfl, I⟩ := hcut
    clear o0 o1 l0 l1 l2 l3 n0 n1 z0 z1 z2 hT
    have J0 := Lib.hid I
    clear I
    go_wp2_with fail
    go_loopw [9] (fun i wr => i = .int .i64 0 ∧ LeftIn w wr o k a b c d P Q p q) (fun i _ => (2 - intOf i).toNat)
    case atStart => exact ⟨rfl, J0.out⟩
    case round =>
      obtain ⟨rfl, I⟩ := hrel
      clear J0
      have J := Lib.hid I
      obtain ⟨o0, o1, n0, n1, a0, a1, b0, b1, s0, s2, sp, sq, bl⟩ := I
      go_wp2_with fail
      refine (hA _).out.mono ?_
      clear o0 o1 n0 n1 a0 a1 b0 b1 s0 s2 sp sq bl
      rintro e2 w2 ⟨rfl, hB2⟩
      have J2 := Lib.hid (J.out.later hB2)
      clear hB2 J
      go_wp2_with fail
      go_ret
      exact ⟨rfl, ((J2.out.alloc _).alloc _).bl⟩

end Go.Proofs.Ytomjcpgjlhencaa

/- The plain arithmetic of the law RangesLeft: what Assume leaves holds every pair of values for which the comparison is as said, and is no more than there was. -/
namespace Go.Proofs.Ytomjcpgjlhencaa
open Go.RowKit

theorem wo_sound (a b n m : Int) (h : a ≤ m) (h' : m ≤ b) (hne : m ≠ n) : woLow a b n ≤ m ∧ m ≤ woHigh a b n := by
  unfold woLow woHigh
  constructor
  · split
    · omega
    · split <;> omega
  · split
    · omega
    · split
      · omega
      · split <;> omega
theorem wo_less (a b n : Int) (hab : a ≤ b) (h : woLow a b n ≤ woHigh a b n) : a ≤ woLow a b n ∧ woHigh a b n ≤ b := by
  unfold woLow woHigh at *
  by_cases h1 : a = b ∧ a = n
  · rw [if_pos h1, if_pos h1] at h; omega
  · rw [if_neg h1, if_neg h1] at h
    rw [if_neg h1, if_neg h1]
    by_cases h2 : a = n
    · rw [if_pos h2, if_pos h2]; omega
    · rw [if_neg h2, if_neg h2]
      by_cases h3 : b = n
      · rw [if_pos h3]; omega
      · rw [if_neg h3]; omega

theorem left_sound (o a b c d m n : Int) (h : Ok64 a b) (g : Ok64 c d) (o1 : 11 ≤ o) (o2 : o ≤ 16) (m1 : a ≤ m) (m2 : m ≤ b) (n1 : c ≤ n) (n2 : n ≤ d) (hh : holdsS o m n = true) :
    (leftS o a b c d).p = true ∧ (leftS o a b c d).x0 ≤ m ∧ m ≤ (leftS o a b c d).x1 ∧ (leftS o a b c d).y0 ≤ n ∧ n ≤ (leftS o a b c d).y1 := by
  have h1 := h.lo; have h2 := h.hi; have g1 := g.lo; have g2 := g.hi
  obtain rfl | rfl | rfl | rfl | rfl | rfl : o = 11 ∨ o = 12 ∨ o = 13 ∨ o = 14 ∨ o = 15 ∨ o = 16 := by omega
  · simp only [holdsS, if_true, beq_iff_eq] at hh
    subst hh
    show (eqLeft a b c d).p = true ∧ (eqLeft a b c d).x0 ≤ m ∧ m ≤ (eqLeft a b c d).x1 ∧ (eqLeft a b c d).y0 ≤ m ∧ m ≤ (eqLeft a b c d).y1
    unfold eqLeft
    rw [if_pos (by omega)]
    simp only [true_and]
    omega
  · have hne : m ≠ n := by simpa [holdsS] using hh
    show (neLeft a b c d).p = true ∧ (neLeft a b c d).x0 ≤ m ∧ m ≤ (neLeft a b c d).x1 ∧ (neLeft a b c d).y0 ≤ n ∧ n ≤ (neLeft a b c d).y1
    have hx : (if (c == d) = true then woLow a b c else a) ≤ m ∧ m ≤ (if (c == d) = true then woHigh a b c else b) := by
      by_cases hc : (c == d) = true
      · rw [if_pos hc, if_pos hc]; exact wo_sound a b c m m1 m2 (by simp at hc; omega)
      · rw [if_neg hc, if_neg hc]; exact ⟨m1, m2⟩
    have hy : (if (a == b) = true then woLow c d a else c) ≤ n ∧ n ≤ (if (a == b) = true then woHigh c d a else d) := by
      by_cases hc : (a == b) = true
      · rw [if_pos hc, if_pos hc]; exact wo_sound c d a n n1 n2 (by simp at hc; omega)
      · rw [if_neg hc, if_neg hc]; exact ⟨n1, n2⟩
    refine ⟨?_, hx.1, hx.2, hy.1, hy.2⟩
    show (decide _ && decide _) = true
    simp only [Bool.and_eq_true, decide_eq_true_eq]
    exact ⟨Int.le_trans hx.1 hx.2, Int.le_trans hy.1 hy.2⟩
  · have hlt : m < n := by simpa [holdsS] using hh
    show (ltLeft a b c d).p = true ∧ (ltLeft a b c d).x0 ≤ m ∧ m ≤ (ltLeft a b c d).x1 ∧ (ltLeft a b c d).y0 ≤ n ∧ n ≤ (ltLeft a b c d).y1
    unfold ltLeft
    rw [if_neg (by omega)]
    simp only [decide_eq_true_eq]
    omega
  · have hle : m ≤ n := by simpa [holdsS] using hh
    show (leLeft a b c d).p = true ∧ (leLeft a b c d).x0 ≤ m ∧ m ≤ (leLeft a b c d).x1 ∧ (leLeft a b c d).y0 ≤ n ∧ n ≤ (leLeft a b c d).y1
    unfold leLeft
    simp only [decide_eq_true_eq]
    omega
  · have hlt : n < m := by simpa [holdsS] using hh
    show (ltLeft c d a b).swap.p = true ∧ (ltLeft c d a b).swap.x0 ≤ m ∧ m ≤ (ltLeft c d a b).swap.x1 ∧ (ltLeft c d a b).swap.y0 ≤ n ∧ n ≤ (ltLeft c d a b).swap.y1
    unfold ltLeft Two.swap
    rw [if_neg (by omega)]
    simp only [decide_eq_true_eq]
    omega
  · have hle : n ≤ m := by simpa [holdsS] using hh
    show (leLeft c d a b).swap.p = true ∧ (leLeft c d a b).swap.x0 ≤ m ∧ m ≤ (leLeft c d a b).swap.x1 ∧ (leLeft c d a b).swap.y0 ≤ n ∧ n ≤ (leLeft c d a b).swap.y1
    unfold leLeft Two.swap
    simp only [decide_eq_true_eq]
    omega

theorem left_less (o a b c d : Int) (h : Ok64 a b) (g : Ok64 c d) (o1 : 11 ≤ o) (o2 : o ≤ 16) (hp : (leftS o a b c d).p = true) :
    a ≤ (leftS o a b c d).x0 ∧ (leftS o a b c d).x1 ≤ b ∧ (leftS o a b c d).x0 ≤ (leftS o a b c d).x1 ∧ c ≤ (leftS o a b c d).y0 ∧ (leftS o a b c d).y1 ≤ d ∧ (leftS o a b c d).y0 ≤ (leftS o a b c d).y1 := by
  have h1 := h.le; have g1 := g.le
  obtain rfl | rfl | rfl | rfl | rfl | rfl : o = 11 ∨ o = 12 ∨ o = 13 ∨ o = 14 ∨ o = 15 ∨ o = 16 := by omega
  · change (eqLeft a b c d).p = true at hp
    show a ≤ (eqLeft a b c d).x0 ∧ (eqLeft a b c d).x1 ≤ b ∧ (eqLeft a b c d).x0 ≤ (eqLeft a b c d).x1 ∧ c ≤ (eqLeft a b c d).y0 ∧ (eqLeft a b c d).y1 ≤ d ∧ (eqLeft a b c d).y0 ≤ (eqLeft a b c d).y1
    unfold eqLeft at *
    by_cases hm : max a c ≤ min b d
    · simp only [if_pos hm]; omega
    · simp [if_neg hm] at hp
  · change (neLeft a b c d).p = true at hp
    show a ≤ (neLeft a b c d).x0 ∧ (neLeft a b c d).x1 ≤ b ∧ (neLeft a b c d).x0 ≤ (neLeft a b c d).x1 ∧ c ≤ (neLeft a b c d).y0 ∧ (neLeft a b c d).y1 ≤ d ∧ (neLeft a b c d).y0 ≤ (neLeft a b c d).y1
    unfold neLeft at *
    simp only [Bool.and_eq_true, decide_eq_true_eq] at hp
    have hx : a ≤ (if (c == d) = true then woLow a b c else a) ∧ (if (c == d) = true then woHigh a b c else b) ≤ b := by
      have := hp.1
      by_cases hc : (c == d) = true
      · simp only [if_pos hc] at this ⊢; exact wo_less a b c h1 this
      · simp only [if_neg hc]; exact ⟨Int.le_refl _, Int.le_refl _⟩
    have hy : c ≤ (if (a == b) = true then woLow c d a else c) ∧ (if (a == b) = true then woHigh c d a else d) ≤ d := by
      have := hp.2
      by_cases hc : (a == b) = true
      · simp only [if_pos hc] at this ⊢; exact wo_less c d a g1 this
      · simp only [if_neg hc]; exact ⟨Int.le_refl _, Int.le_refl _⟩
    exact ⟨hx.1, hx.2, hp.1, hy.1, hy.2, hp.2⟩
  · change (ltLeft a b c d).p = true at hp
    show a ≤ (ltLeft a b c d).x0 ∧ (ltLeft a b c d).x1 ≤ b ∧ (ltLeft a b c d).x0 ≤ (ltLeft a b c d).x1 ∧ c ≤ (ltLeft a b c d).y0 ∧ (ltLeft a b c d).y1 ≤ d ∧ (ltLeft a b c d).y0 ≤ (ltLeft a b c d).y1
    unfold ltLeft at *
    split at hp
    · simp at hp
    · rename_i hc
      simp only [if_neg hc]
      simp only [decide_eq_true_eq] at hp
      omega
  · change (leLeft a b c d).p = true at hp
    show a ≤ (leLeft a b c d).x0 ∧ (leLeft a b c d).x1 ≤ b ∧ (leLeft a b c d).x0 ≤ (leLeft a b c d).x1 ∧ c ≤ (leLeft a b c d).y0 ∧ (leLeft a b c d).y1 ≤ d ∧ (leLeft a b c d).y0 ≤ (leLeft a b c d).y1
    unfold leLeft at *
    simp only [decide_eq_true_eq] at hp
    show a ≤ a ∧ min b d ≤ b ∧ a ≤ min b d ∧ c ≤ max c a ∧ d ≤ d ∧ max c a ≤ d
    omega
  · change (ltLeft c d a b).p = true at hp
    show a ≤ (ltLeft c d a b).y0 ∧ (ltLeft c d a b).y1 ≤ b ∧ (ltLeft c d a b).y0 ≤ (ltLeft c d a b).y1 ∧ c ≤ (ltLeft c d a b).x0 ∧ (ltLeft c d a b).x1 ≤ d ∧ (ltLeft c d a b).x0 ≤ (ltLeft c d a b).x1
    unfold ltLeft at *
    split at hp
    · simp at hp
    · rename_i hc
      simp only [if_neg hc]
      simp only [decide_eq_true_eq] at hp
      omega
  · change (leLeft c d a b).p = true at hp
    show a ≤ (leLeft c d a b).y0 ∧ (leLeft c d a b).y1 ≤ b ∧ (leLeft c d a b).y0 ≤ (leLeft c d a b).y1 ∧ c ≤ (leLeft c d a b).x0 ∧ (leLeft c d a b).x1 ≤ d ∧ (leLeft c d a b).x0 ≤ (leLeft c d a b).x1
    unfold leLeft at *
    simp only [decide_eq_true_eq] at hp
    show a ≤ max a c ∧ b ≤ b ∧ max a c ≤ b ∧ c ≤ c ∧ min d b ≤ d ∧ c ≤ min d b
    omega

theorem holds_opp (o m n : Int) (o1 : 11 ≤ o) (o2 : o ≤ 16) : holdsS (oppS o) m n = !holdsS o m n := by
  obtain rfl | rfl | rfl | rfl | rfl | rfl : o = 11 ∨ o = 12 ∨ o = 13 ∨ o = 14 ∨ o = 15 ∨ o = 16 := by omega
  all_goals
    rw [Bool.eq_iff_iff]
    simp [holdsS, oppS]
    try omega

end Go.Proofs.Ytomjcpgjlhencaa
