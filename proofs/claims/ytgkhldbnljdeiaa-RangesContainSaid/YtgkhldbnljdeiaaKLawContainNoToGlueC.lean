/- LawContainNo, GlueC. -/
import Derived.Test.YtgkhldbnljdeiaaKLawPickedToRngK
import Derived.Test.YtgkhldbnljdeiaaKLawLeft
import Derived.Test.YtgkhldbnljdeiaaKShownToLawDone
import Derived.Test.YtgkhldbnljdeiaaKLawContain
import Derived.Test.YtgkhldbnljdeiaaKFrameContain
set_option linter.unusedSimpArgs false
set_option linter.unusedVariables false
/- The walk of the law RangesContain, out of the contracts of Binary, of Check and of the examples where Binary returns an error. -/
namespace Go.Proofs.Ytgkhldbnljdeiaa
open Go.RowKit RangesMath

set_option maxRecDepth 100000 in
set_option maxHeartbeats 2000000 in
theorem contain_no (hs : ShownOK') (o k a b c d P Q : Int) (w : World)
    (hA : ∀ (w : World), Hid (Calls Try.prog 21 #[.int .i64 o, .int .i64 k, .agg #[.int .i64 a, .int .i64 b], .agg #[.int .i64 c, .int .i64 d]] w fun r w' => r = .returned (.tuple #[.agg #[.int .i64 0, .int .i64 0, .bool false, .bool false, .bool false], .int .i64 2]) ∧ Below w.heap.size w w')) :
    Calls Try.prog 6 #[.agg #[.int .i64 o, .int .i64 k], .agg #[.int .i64 a, .int .i64 b, .int .i64 c, .int .i64 d], .agg #[.int .u64 P, .int .u64 Q]] w fun e w' => e = .returned (.bool true) ∧ Below w.heap.size w w' := by
  go_enter Try.func6, Try.ntmps6
  go_wp2_with fail
  refine (hs _).mono ?_
  rintro e1 w1 ⟨rfl, hB1⟩
  have z0 : w.heap.size + 1 + 1 < w1.heap.size := by have := hB1.size; simp at this; omega
  have z1 : w.heap.size + 1 < w1.heap.size := by omega
  have z2 : w.heap.size < w1.heap.size := by omega
  have o0 : w1.cell? ⟨w.heap.size, 0, none⟩ = some (.int .i64 o) := cell_later hB1 (by go_simp)
  have o1 : w1.cell? ⟨w.heap.size, 1, none⟩ = some (.int .i64 k) := cell_later hB1 (by go_simp)
  have l0 : w1.cell? ⟨w.heap.size + 1, 0, none⟩ = some (.int .i64 a) := cell_later hB1 (by go_simp)
  have l1 : w1.cell? ⟨w.heap.size + 1, 1, none⟩ = some (.int .i64 b) := cell_later hB1 (by go_simp)
  have l2 : w1.cell? ⟨w.heap.size + 1, 2, none⟩ = some (.int .i64 c) := cell_later hB1 (by go_simp)
  have l3 : w1.cell? ⟨w.heap.size + 1, 3, none⟩ = some (.int .i64 d) := cell_later hB1 (by go_simp)
  have n0 : w1.cell? ⟨w.heap.size + 1 + 1, 0, none⟩ = some (.int .u64 P) := cell_later hB1 (by go_simp)
  have n1 : w1.cell? ⟨w.heap.size + 1 + 1, 1, none⟩ = some (.int .u64 Q) := cell_later hB1 (by go_simp)
  have hT : Below w.heap.size w w1 := ((((Below.refl _ _).alloc (Nat.le_refl _) _).alloc (by simp) _).alloc (by simp; omega) _).trans (hB1.mono (by simp; omega))
  clear hB1
  go_upto_region 3 with fail
  go_cut [7, 8] (fun s7 s8 wx => ∃ p q : Nat, s7 = .pointer (some ⟨p, 0, none⟩) ∧ s8 = .pointer (some ⟨q, 0, none⟩) ∧ LeftIn w wx o k a b c d P Q p q)
  case first =>
    go_region
    · go_wp2
      go_meet
      exact ⟨w1.heap.size, w1.heap.size + 1, rfl, rfl, by go_simp, by go_simp, by go_simp, by go_simp, by go_simp, by go_simp, by go_simp, by go_simp, by (simp; try omega), by (simp; try omega), by (simp; try omega), by (simp; try omega), ((hT.alloc (by omega) _).alloc (by simp; omega) _).drew⟩
    · go_wp2
      go_meet
      exact ⟨w1.heap.size + 1, w1.heap.size, rfl, rfl, by go_simp, by go_simp, by go_simp, by go_simp, by go_simp, by go_simp, by go_simp, by go_simp, by (simp; try omega), by (simp; try omega), by (simp; try omega), by (simp; try omega), ((hT.alloc (by omega) _).alloc (by simp; omega) _).drew⟩
  case rest =>
    obtain ⟨p, q, rfl, rfl, I⟩ := hcut
    clear o0 o1 l0 l1 l2 l3 n0 n1 z0 z1 z2 hT
    have J := Lib.hid I
    obtain ⟨o0, o1, n0, n1, a0, a1, b0, b1, s0, s2, sp, sq, bl⟩ := I
    go_wp2_with fail
    refine (hA _).out.mono ?_
    clear o0 o1 n0 n1 a0 a1 b0 b1 s0 s2 sp sq bl
    rintro e2 w2 ⟨rfl, hB2⟩
    have J2 := Lib.hid (J.out.later hB2)
    clear hB2 J
    obtain ⟨o0, o1, n0, n1, a0, a1, b0, b1, s0, s2, sp, sq, bl⟩ := J2.out
    go_wp2
    go_ret
    exact ⟨rfl, bl.alloc (by omega) _⟩

end Go.Proofs.Ytgkhldbnljdeiaa

/- The statement RangesContain of layer 4 out of what is asked of the program's functions. -/
namespace Go.Proofs.Ytgkhldbnljdeiaa
open Go.RowKit RangesMath

theorem contain_glue (hs : ShownOK') (hb : BinSpec 21) (hk : CheckOK 13) : WalkRangesContain := by
  intro o k a b c d P Q w _ _ wa wb wc wd wP wQ
  have B := hb o k a b c d (in64_of wa) (in64_of wb) (in64_of wc) (in64_of wd)
  unfold binE binErr at B
  by_cases hg : binGood o k a b c d = true
  · simp only [hg, if_true] at B
    obtain ⟨h1, h2, h3⟩ := good_parts hg
    exact contain_walk hs o k a b c d P Q (bounds_u64 wP).1 (bounds_u64 wQ).1 w _ _ _ _ _ B (Lib.hid (check_ok64 h2)) (Lib.hid (check_ok64 h3)) (Lib.hid (con_good hg)) (Lib.hid h1) (Lib.hid hk)
  · simp only [hg, if_false, Bool.false_eq_true] at B
    exact contain_no hs o k a b c d P Q w B

end Go.Proofs.Ytgkhldbnljdeiaa
