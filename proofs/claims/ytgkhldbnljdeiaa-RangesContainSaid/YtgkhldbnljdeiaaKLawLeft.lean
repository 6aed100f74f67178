/- The walk of the law RangesLeft, out of the contracts of Assume and of the examples. -/
import Derived.RegionTactic
import Derived.BigRegion
import Derived.Deep.RegionHeld3
import Derived.Deep.DeepCutAuto
import Derived.Deep.CutBlock
import Derived.Test.YtgkhldbnljdeiaaKLawPickedToRngK
import Derived.Test.YtgkhldbnljdeiaaKShownToLawDone
set_option linter.unusedSimpArgs false
set_option linter.unusedVariables false
namespace Go.Proofs.Ytgkhldbnljdeiaa
open Go.RowKit

/-- The variables of RangesLeft: q, p, and the two ranges in blocks of their own. -/
structure LeftIn (w wx : World) (o k a b c d P Q : Int) (p q : Nat) : Prop where
  o0 : wx.cell? ⟨w.heap.size, 0, none⟩ = some (.int .i64 o)
  o1 : wx.cell? ⟨w.heap.size, 1, none⟩ = some (.int .i64 k)
  n0 : wx.cell? ⟨w.heap.size + 1 + 1, 0, none⟩ = some (.int .u64 P)
  n1 : wx.cell? ⟨w.heap.size + 1 + 1, 1, none⟩ = some (.int .u64 Q)
  a0 : wx.cell? ⟨p, 0, none⟩ = some (.int .i64 a)
  a1 : wx.cell? ⟨p, 1, none⟩ = some (.int .i64 b)
  b0 : wx.cell? ⟨q, 0, none⟩ = some (.int .i64 c)
  b1 : wx.cell? ⟨q, 1, none⟩ = some (.int .i64 d)
  s0 : w.heap.size < wx.heap.size
  s2 : w.heap.size + 1 + 1 < wx.heap.size
  sp : p < wx.heap.size
  sq : q < wx.heap.size
  bl : Below w.heap.size w wx

theorem LeftIn.later {w wx wy : World} {o k a b c d P Q : Int} {p q : Nat} (h : LeftIn w wx o k a b c d P Q p q) (hb : Below wx.heap.size wx wy) : LeftIn w wy o k a b c d P Q p q :=
  ⟨cell_later hb h.o0, cell_later hb h.o1, cell_later hb h.n0, cell_later hb h.n1, cell_later hb h.a0, cell_later hb h.a1, cell_later hb h.b0, cell_later hb h.b1, Nat.lt_of_lt_of_le h.s0 hb.size, Nat.lt_of_lt_of_le h.s2 hb.size, Nat.lt_of_lt_of_le h.sp hb.size, Nat.lt_of_lt_of_le h.sq hb.size, h.bl.trans (hb.mono (Nat.le_of_lt h.s0))⟩
theorem LeftIn.alloc {w wx : World} {o k a b c d P Q : Int} {p q : Nat} (h : LeftIn w wx o k a b c d P Q p q) (ob : Obj) : LeftIn w (wx.alloc ob) o k a b c d P Q p q := h.later ((Below.refl _ _).alloc (Nat.le_refl _) ob)

set_option maxRecDepth 100000 in
set_option maxHeartbeats 2000000 in
theorem left_walk (hs : ShownOK') (o k a b c d P Q : Int) (hP : 0 ≤ P) (hQ : 0 ≤ Q) (w : World) (x0 x1 y0 y1 : Bool → Int) (pp : Bool → Bool)
    (hA : ∀ (r : Bool) (w : World), Hid (Calls Try.prog 25 #[.int .i64 o, .int .i64 k, .agg #[.int .i64 a, .int .i64 b], .agg #[.int .i64 c, .int .i64 d], .bool r] w fun t w' => t = .returned (.tuple #[.agg #[.int .i64 (x0 r), .int .i64 (x1 r)], .agg #[.int .i64 (y0 r), .int .i64 (y1 r)], .bool (pp r), .int .i64 0]) ∧ Below w.heap.size w w'))
    (ho : Hid (11 ≤ o ∧ o ≤ 16)) (hab : Hid (Ok64 a b)) (hcd : Hid (Ok64 c d))
    (hsound : Hid (∀ (r : Bool) (m n : Int), a ≤ m → m ≤ b → c ≤ n → n ≤ d → (holdsS o m n == r) = true → pp r = true ∧ x0 r ≤ m ∧ m ≤ x1 r ∧ y0 r ≤ n ∧ n ≤ y1 r))
    (hless : Hid (∀ r : Bool, pp r = true → a ≤ x0 r ∧ x1 r ≤ b ∧ x0 r ≤ x1 r ∧ c ≤ y0 r ∧ y1 r ≤ d ∧ y0 r ≤ y1 r)) :
    Calls Try.prog 8 #[.agg #[.int .i64 o, .int .i64 k], .agg #[.int .i64 a, .int .i64 b, .int .i64 c, .int .i64 d], .agg #[.int .u64 P, .int .u64 Q]] w fun e w' => e = .returned (.bool true) ∧ Below w.heap.size w w' := by
  have PA := fun w => Lib.hid (picked_any a b P w hab.out hP)
  have PB := fun w => Lib.hid (picked_any c d Q w hcd.out hQ)
  clear hP hQ
  go_enter Try.func8, Try.ntmps8
  go_wp2_with fail
  refine (hs _).mono ?_
  rintro e1 w1 ⟨rfl, hB1⟩
  have z0 : w.heap.size + 1 + 1 < w1.heap.size := by have := hB1.size; simp at this; omega
  have z1 : w.heap.size + 1 < w1.heap.size := by omega
  have z2 : w.heap.size < w1.heap.size := by omega
  have o0 : w1.cell? ⟨w.heap.size, 0, none⟩ = some (.int .i64 o) := cell_later hB1 (by go_simp)
  have o1 : w1.cell? ⟨w.heap.size, 1, none⟩ = some (.int .i64 k) := cell_later hB1 (by go_simp)
  have l0 : w1.cell? ⟨w.heap.size + 1, 0, none⟩ = some (.int .i64 a) := cell_later hB1 (by go_simp)
  have l1 : w1.cell? ⟨w.heap.size + 1, 1, none⟩ = some (.int .i64 b) := cell_later hB1 (by go_simp)
  have l2 : w1.cell? ⟨w.heap.size + 1, 2, none⟩ = some (.int .i64 c) := cell_later hB1 (by go_simp)
  have l3 : w1.cell? ⟨w.heap.size + 1, 3, none⟩ = some (.int .i64 d) := cell_later hB1 (by go_simp)
  have n0 : w1.cell? ⟨w.heap.size + 1 + 1, 0, none⟩ = some (.int .u64 P) := cell_later hB1 (by go_simp)
  have n1 : w1.cell? ⟨w.heap.size + 1 + 1, 1, none⟩ = some (.int .u64 Q) := cell_later hB1 (by go_simp)
  have hT : Below w.heap.size w w1 := ((((Below.refl _ _).alloc (Nat.le_refl _) _).alloc (by simp) _).alloc (by simp; omega) _).trans (hB1.mono (by simp; omega))
  clear hB1
  go_upto_region 3 with fail
  go_cut [7, 8] (fun s7 s8 wx => ∃ p q : Nat, s7 = .pointer (some ⟨p, 0, none⟩) ∧ s8 = .pointer (some ⟨q, 0, none⟩) ∧ LeftIn w wx o k a b c d P Q p q)
  case first =>
    go_region
    · go_wp2
      go_meet
      exact ⟨w1.heap.size, w1.heap.size + 1, rfl, rfl, by go_simp, by go_simp, by go_simp, by go_simp, by go_simp, by go_simp, by go_simp, by go_simp, by (simp; try omega), by (simp; try omega), by (simp; try omega), by (simp; try omega), ((hT.alloc (by omega) _).alloc (by simp; omega) _).drew⟩
    · go_wp2
      go_meet
      exact ⟨w1.heap.size + 1, w1.heap.size, rfl, rfl, by go_simp, by go_simp, by go_simp, by go_simp, by go_simp, by go_simp, by go_simp, by go_simp, by (simp; try omega), by (simp; try omega), by (simp; try omega), by (simp; try omega), ((hT.alloc (by omega) _).alloc (by simp; omega) _).drew⟩
  case rest =>
    obtain ⟨p, q, rfl, rfl, I⟩ := hcut
    clear o0 o1 l0 l1 l2 l3 n0 n1 z0 z1 z2 hT
    have J0 := Lib.hid I
    clear I
    go_wp2_with fail
    go_loopw [9] (fun i wr => (i = .int .i64 0 ∨ i = .int .i64 1 ∨ i = .int .i64 2) ∧ LeftIn w wr o k a b c d P Q p q) (fun i _ => (2 - intOf i).toNat)
    case atStart => exact ⟨.inl rfl, J0.out⟩
    case round =>
      obtain ⟨hi, I⟩ := hrel
      clear J0
      have J := Lib.hid I
      obtain ⟨o0, o1, n0, n1, a0, a1, b0, b1, s0, s2, sp, sq, bl⟩ := I
      rcases hi with rfl | rfl | rfl
      · go_wp2_with fail
        refine (hA _ _).out.mono ?_
        clear o0 o1 n0 n1 a0 a1 b0 b1 s0 s2 sp sq bl
        rintro e2 w2 ⟨rfl, hB2⟩
        have J2 := Lib.hid (J.out.later hB2)
        clear hB2 J
        obtain ⟨o0, o1, n0, n1, a0, a1, b0, b1, s0, s2, sp, sq, bl⟩ := J2.out
        go_wp2_with fail
        clear o0 o1 n0 n1 a0 a1 b0 b1 s0 s2 sp sq bl
        have I3 : LeftIn w ((w2.alloc (.cells #[.int .i64 (x0 false), .int .i64 (x1 false)] 23)).alloc (.cells #[.int .i64 (y0 false), .int .i64 (y1 false)] 23)) o k a b c d P Q p q := (J2.out.alloc _).alloc _
        have c0 : ((w2.alloc (.cells #[.int .i64 (x0 false), .int .i64 (x1 false)] 23)).alloc (.cells #[.int .i64 (y0 false), .int .i64 (y1 false)] 23)).cell? ⟨w2.heap.size, 0, none⟩ = some (.int .i64 (x0 false)) := by go_simp
        have c1 : ((w2.alloc (.cells #[.int .i64 (x0 false), .int .i64 (x1 false)] 23)).alloc (.cells #[.int .i64 (y0 false), .int .i64 (y1 false)] 23)).cell? ⟨w2.heap.size, 1, none⟩ = some (.int .i64 (x1 false)) := by go_simp
        have c2 : ((w2.alloc (.cells #[.int .i64 (x0 false), .int .i64 (x1 false)] 23)).alloc (.cells #[.int .i64 (y0 false), .int .i64 (y1 false)] 23)).cell? ⟨w2.heap.size + 1, 0, none⟩ = some (.int .i64 (y0 false)) := by go_simp
        have c3 : ((w2.alloc (.cells #[.int .i64 (x0 false), .int .i64 (x1 false)] 23)).alloc (.cells #[.int .i64 (y0 false), .int .i64 (y1 false)] 23)).cell? ⟨w2.heap.size + 1, 1, none⟩ = some (.int .i64 (y1 false)) := by go_simp
        clear J2
        generalize ((w2.alloc (.cells #[.int .i64 (x0 false), .int .i64 (x1 false)] 23)).alloc (.cells #[.int .i64 (y0 false), .int .i64 (y1 false)] 23)) = W at *
        generalize w2.heap.size = n2 at *
        have ID : LeftIn w W.drew o k a b c d P Q p q := I3.later (Below.refl _ _).drew
        obtain ⟨o0, o1, n0, n1, a0, a1, b0, b1, s0, s2, sp, sq, bl⟩ := I3
        clear s0 s2 sp sq bl
        go_region_held3 (fun w' => w'.cell? ⟨p, 0, none⟩ = some (.int .i64 a) ∧ w'.cell? ⟨p, 1, none⟩ = some (.int .i64 b) ∧ w'.cell? ⟨q, 0, none⟩ = some (.int .i64 c) ∧ w'.cell? ⟨q, 1, none⟩ = some (.int .i64 d) ∧ w'.cell? ⟨w.heap.size + 1 + 1, 0, none⟩ = some (.int .u64 P) ∧ w'.cell? ⟨w.heap.size + 1 + 1, 1, none⟩ = some (.int .u64 Q) ∧ w'.cell? ⟨n2, 0, none⟩ = some (.int .i64 (x0 false)) ∧ w'.cell? ⟨n2, 1, none⟩ = some (.int .i64 (x1 false)) ∧ w'.cell? ⟨n2 + 1, 0, none⟩ = some (.int .i64 (y0 false)) ∧ w'.cell? ⟨n2 + 1, 1, none⟩ = some (.int .i64 (y1 false)) ∧ LeftIn w w' o k a b c d P Q p q)
          (first
            | exact ⟨a0, a1, b0, b1, n0, n1, c0, c1, c2, c3, ID⟩
            | (go_split_ands; exact ⟨cell_later hBq ‹_›, cell_later hBq ‹_›, cell_later hBq ‹_›, cell_later hBq ‹_›, cell_later hBq ‹_›, cell_later hBq ‹_›, cell_later hBq ‹_›, cell_later hBq ‹_›, cell_later hBq ‹_›, cell_later hBq ‹_›, LeftIn.later ‹_› hBq⟩))
          (first
            | (go_at_call 27; (with_reducible refine (PA _).out.mono ?_); rintro eq wq ⟨⟨v1, rfl, hv1⟩, hBq⟩)
            | (go_at_call 27; (with_reducible refine (PB _).out.mono ?_); rintro eq wq ⟨⟨v2, rfl, hv2⟩, hBq⟩))
        clear a0 a1 b0 b1 n0 n1 c0 c1 c2 c3 o0 o1 ID
        rename_i hq
        obtain ⟨-, -, -, -, -, -, c0, c1, c2, c3, I4⟩ := hq
        clear hBq
        have J4 := Lib.hid I4
        obtain ⟨o0, o1, n0, n1, a0, a1, b0, b1, s0, s2, sp, sq, bl⟩ := I4
        clear s0 s2 sp sq bl n0 n1
        have HO := fun w => Lib.hid (holds_any o v1 v2 w ho.out.1 ho.out.2)
        have HS := hsound.out false v1 v2 hv1.1 hv1.2 hv2.1 hv2.2
        have HL := hless.out false
        clear hv1 hv2
        generalize holdsS o v1 v2 = H at *
        cases H
        · obtain ⟨hp, m1, m2, m3, m4⟩ := HS rfl
          obtain ⟨l1, l2, l3, l4, l5, l6⟩ := HL hp
          clear HS HL
          go_wp2_with fail
          refine (HO _).out.mono ?_
          rintro e5 w5 ⟨rfl, rfl⟩
          go_wp2_with fail
          go_roundw
          case rel => exact ⟨.inr (.inl rfl), J4.out⟩
          case measure => simp [intOf]
        · clear HS
          cases hp : pp false
          · clear HL
            go_wp2_with fail
            refine (HO _).out.mono ?_
            rintro e5 w5 ⟨rfl, rfl⟩
            go_wp2_with fail
            go_roundw
            case rel => exact ⟨.inr (.inl rfl), J4.out⟩
            case measure => simp [intOf]
          · obtain ⟨l1, l2, l3, l4, l5, l6⟩ := HL hp
            clear HL
            go_wp2_with fail
            refine (HO _).out.mono ?_
            rintro e5 w5 ⟨rfl, rfl⟩
            go_wp2_with fail
            go_roundw
            case rel => exact ⟨.inr (.inl rfl), J4.out⟩
            case measure => simp [intOf]
      · go_wp2_with fail
        refine (hA _ _).out.mono ?_
        clear o0 o1 n0 n1 a0 a1 b0 b1 s0 s2 sp sq bl
        rintro e2 w2 ⟨rfl, hB2⟩
        have J2 := Lib.hid (J.out.later hB2)
        clear hB2 J
        obtain ⟨o0, o1, n0, n1, a0, a1, b0, b1, s0, s2, sp, sq, bl⟩ := J2.out
        go_wp2_with fail
        clear o0 o1 n0 n1 a0 a1 b0 b1 s0 s2 sp sq bl
        have I3 : LeftIn w ((w2.alloc (.cells #[.int .i64 (x0 true), .int .i64 (x1 true)] 23)).alloc (.cells #[.int .i64 (y0 true), .int .i64 (y1 true)] 23)) o k a b c d P Q p q := (J2.out.alloc _).alloc _
        have c0 : ((w2.alloc (.cells #[.int .i64 (x0 true), .int .i64 (x1 true)] 23)).alloc (.cells #[.int .i64 (y0 true), .int .i64 (y1 true)] 23)).cell? ⟨w2.heap.size, 0, none⟩ = some (.int .i64 (x0 true)) := by go_simp
        have c1 : ((w2.alloc (.cells #[.int .i64 (x0 true), .int .i64 (x1 true)] 23)).alloc (.cells #[.int .i64 (y0 true), .int .i64 (y1 true)] 23)).cell? ⟨w2.heap.size, 1, none⟩ = some (.int .i64 (x1 true)) := by go_simp
        have c2 : ((w2.alloc (.cells #[.int .i64 (x0 true), .int .i64 (x1 true)] 23)).alloc (.cells #[.int .i64 (y0 true), .int .i64 (y1 true)] 23)).cell? ⟨w2.heap.size + 1, 0, none⟩ = some (.int .i64 (y0 true)) := by go_simp
        have c3 : ((w2.alloc (.cells #[.int .i64 (x0 true), .int .i64 (x1 true)] 23)).alloc (.cells #[.int .i64 (y0 true), .int .i64 (y1 true)] 23)).cell? ⟨w2.heap.size + 1, 1, none⟩ = some (.int .i64 (y1 true)) := by go_simp
        clear J2
        generalize ((w2.alloc (.cells #[.int .i64 (x0 true), .int .i64 (x1 true)] 23)).alloc (.cells #[.int .i64 (y0 true), .int .i64 (y1 true)] 23)) = W at *
        generalize w2.heap.size = n2 at *
        have ID : LeftIn w W.drew o k a b c d P Q p q := I3.later (Below.refl _ _).drew
        obtain ⟨o0, o1, n0, n1, a0, a1, b0, b1, s0, s2, sp, sq, bl⟩ := I3
        clear s0 s2 sp sq bl
        go_region_held3 (fun w' => w'.cell? ⟨p, 0, none⟩ = some (.int .i64 a) ∧ w'.cell? ⟨p, 1, none⟩ = some (.int .i64 b) ∧ w'.cell? ⟨q, 0, none⟩ = some (.int .i64 c) ∧ w'.cell? ⟨q, 1, none⟩ = some (.int .i64 d) ∧ w'.cell? ⟨w.heap.size + 1 + 1, 0, none⟩ = some (.int .u64 P) ∧ w'.cell? ⟨w.heap.size + 1 + 1, 1, none⟩ = some (.int .u64 Q) ∧ w'.cell? ⟨n2, 0, none⟩ = some (.int .i64 (x0 true)) ∧ w'.cell? ⟨n2, 1, none⟩ = some (.int .i64 (x1 true)) ∧ w'.cell? ⟨n2 + 1, 0, none⟩ = some (.int .i64 (y0 true)) ∧ w'.cell? ⟨n2 + 1, 1, none⟩ = some (.int .i64 (y1 true)) ∧ LeftIn w w' o k a b c d P Q p q)
          (first
            | exact ⟨a0, a1, b0, b1, n0, n1, c0, c1, c2, c3, ID⟩
            | (go_split_ands; exact ⟨cell_later hBq ‹_›, cell_later hBq ‹_›, cell_later hBq ‹_›, cell_later hBq ‹_›, cell_later hBq ‹_›, cell_later hBq ‹_›, cell_later hBq ‹_›, cell_later hBq ‹_›, cell_later hBq ‹_›, cell_later hBq ‹_›, LeftIn.later ‹_› hBq⟩))
          (first
            | (go_at_call 27; (with_reducible refine (PA _).out.mono ?_); rintro eq wq ⟨⟨v1, rfl, hv1⟩, hBq⟩)
            | (go_at_call 27; (with_reducible refine (PB _).out.mono ?_); rintro eq wq ⟨⟨v2, rfl, hv2⟩, hBq⟩))
        clear a0 a1 b0 b1 n0 n1 c0 c1 c2 c3 o0 o1 ID
        rename_i hq
        obtain ⟨-, -, -, -, -, -, c0, c1, c2, c3, I4⟩ := hq
        clear hBq
        have J4 := Lib.hid I4
        obtain ⟨o0, o1, n0, n1, a0, a1, b0, b1, s0, s2, sp, sq, bl⟩ := I4
        clear s0 s2 sp sq bl n0 n1
        have HO := fun w => Lib.hid (holds_any o v1 v2 w ho.out.1 ho.out.2)
        have HS := hsound.out true v1 v2 hv1.1 hv1.2 hv2.1 hv2.2
        have HL := hless.out true
        clear hv1 hv2
        generalize holdsS o v1 v2 = H at *
        cases H
        · clear HS
          cases hp : pp true
          · clear HL
            go_wp2_with fail
            refine (HO _).out.mono ?_
            rintro e5 w5 ⟨rfl, rfl⟩
            go_wp2_with fail
            go_roundw
            case rel => exact ⟨.inr (.inr rfl), J4.out⟩
            case measure => simp [intOf]
          · obtain ⟨l1, l2, l3, l4, l5, l6⟩ := HL hp
            clear HL
            go_wp2_with fail
            refine (HO _).out.mono ?_
            rintro e5 w5 ⟨rfl, rfl⟩
            go_wp2_with fail
            go_roundw
            case rel => exact ⟨.inr (.inr rfl), J4.out⟩
            case measure => simp [intOf]
        · obtain ⟨hp, m1, m2, m3, m4⟩ := HS rfl
          obtain ⟨l1, l2, l3, l4, l5, l6⟩ := HL hp
          clear HS HL
          go_wp2_with fail
          refine (HO _).out.mono ?_
          rintro e5 w5 ⟨rfl, rfl⟩
          go_wp2_with fail
          go_roundw
          case rel => exact ⟨.inr (.inr rfl), J4.out⟩
          case measure => simp [intOf]
      · clear o0 o1 n0 n1 a0 a1 b0 b1 s0 s2 sp sq bl
        go_wp2
        go_ret
        exact ⟨rfl, J.out.bl⟩

end Go.Proofs.Ytgkhldbnljdeiaa
