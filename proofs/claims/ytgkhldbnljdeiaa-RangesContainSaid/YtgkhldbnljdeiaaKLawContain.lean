/- The walk of the law RangesContain, out of the contracts of Binary, of Check and of the examples. -/
import Derived.Test.YtgkhldbnljdeiaaKLawPickedToRngK
import Derived.Test.YtgkhldbnljdeiaaKLawLeft
import Derived.Test.YtgkhldbnljdeiaaKShownToLawDone
set_option linter.unusedSimpArgs false
set_option linter.unusedVariables false
namespace Go.Proofs.Ytgkhldbnljdeiaa
open Go.RowKit RangesMath

/-- The variables of RangesContain: those of RangesLeft and the effect. -/
structure ConIn (w wx : World) (o k a b c d P Q : Int) (p q n : Nat) (lo hi : Int) (s t u : Bool) : Prop where
  li : LeftIn w wx o k a b c d P Q p q
  x0 : wx.cell? ⟨n, 0, none⟩ = some (.int .i64 lo)
  x1 : wx.cell? ⟨n, 1, none⟩ = some (.int .i64 hi)
  x2 : wx.cell? ⟨n, 2, none⟩ = some (.bool s)
  x3 : wx.cell? ⟨n, 3, none⟩ = some (.bool t)
  x4 : wx.cell? ⟨n, 4, none⟩ = some (.bool u)
  sn : n < wx.heap.size

theorem ConIn.later {w wx wy : World} {o k a b c d P Q : Int} {p q n : Nat} {lo hi : Int} {s t u : Bool} (h : ConIn w wx o k a b c d P Q p q n lo hi s t u) (hb : Below wx.heap.size wx wy) : ConIn w wy o k a b c d P Q p q n lo hi s t u :=
  ⟨h.li.later hb, cell_later hb h.x0, cell_later hb h.x1, cell_later hb h.x2, cell_later hb h.x3, cell_later hb h.x4, Nat.lt_of_lt_of_le h.sn hb.size⟩
theorem ConIn.alloc {w wx : World} {o k a b c d P Q : Int} {p q n : Nat} {lo hi : Int} {s t u : Bool} (h : ConIn w wx o k a b c d P Q p q n lo hi s t u) (ob : Obj) : ConIn w (wx.alloc ob) o k a b c d P Q p q n lo hi s t u := h.later ((Below.refl _ _).alloc (Nat.le_refl _) ob)

theorem law_kindOf (o k : Int) (w : World) :
    Calls Try.prog 29 #[.agg #[.int .i64 o, .int .i64 k]] w fun e w' => e = .returned (.int .i64 (resK o k)) ∧ Below w.heap.size w w' := by
  unfold resK
  by_cases h : 11 ≤ o
  · rw [if_pos h]
    go_enter Try.func29, Try.ntmps29
    go_wp2
    go_ret
    exact ⟨rfl, (Below.refl _ _).alloc (Nat.le_refl _) _⟩
  · rw [if_neg h]
    go_enter Try.func29, Try.ntmps29
    go_wp2
    go_ret
    exact ⟨rfl, (Below.refl _ _).alloc (Nat.le_refl _) _⟩

theorem below_draws {a w : World} {B : Nat} (h : Below B a w) (n : Nat) : Below B a (w.drewN n) := ⟨h.os, h.tape, h.output, h.size, h.block⟩

/-- What done makes of two values of the ranges, as the effect says. -/
def DoneIn (lo hi : Int) (s t u : Bool) (w : World) (e : Ending) (w' : World) : Prop := (∃ (n : Int) (T U : Bool), e = .returned (.agg #[.int .i64 n, .bool T, .bool U]) ∧ (T = true → t = true) ∧ (U = true → u = true) ∧ (T = false → U = false → s = true ∧ lo ≤ n ∧ n ≤ hi)) ∧ Below w.heap.size w w'
theorem done_in (o k a b c d v x lo hi : Int) (s t u : Bool) (w : World) (hf : fitsB o k = true) (hC : Contains o k a b c d ⟨lo, hi, s, t, u⟩) (hab : Ok64 a b) (h1 : a ≤ v) (h2 : v ≤ b) (h3 : c ≤ x) (h4 : x ≤ d) :
    Calls Try.prog 28 #[.int .i64 o, .int .i64 k, .int .i64 v, .int .i64 x] w (DoneIn lo hi s t u w) := by
  obtain ⟨n, hD, hn⟩ := done_any o k v x w hf ⟨by have := hab.lo; omega, by have := hab.hi; omega⟩
  refine hD.mono fun e w' ⟨he, hb⟩ => ⟨⟨n, _, _, he, hC.trap v x h1 h2 h3 h4, hC.undef v x h1 h2 h3 h4, fun ht hu => ?_⟩, hb⟩
  have := hC.holds v x h1 h2 h3 h4 ht hu
  rw [hn ht hu]; exact this

set_option maxRecDepth 100000 in
set_option maxHeartbeats 4000000 in
theorem contain_walk (hs : ShownOK') (o k a b c d P Q : Int) (hP : 0 ≤ P) (hQ : 0 ≤ Q) (w : World) (lo hi : Int) (s t u : Bool)
    (hA : ∀ (w : World), Hid (Calls Try.prog 21 #[.int .i64 o, .int .i64 k, .agg #[.int .i64 a, .int .i64 b], .agg #[.int .i64 c, .int .i64 d]] w fun r w' => r = .returned (.tuple #[.agg #[.int .i64 lo, .int .i64 hi, .bool s, .bool t, .bool u], .int .i64 0]) ∧ Below w.heap.size w w'))
    (hab : Hid (Ok64 a b)) (hcd : Hid (Ok64 c d)) (hC : Hid (Contains o k a b c d ⟨lo, hi, s, t, u⟩)) (hf : Hid (fitsB o k = true))
    (hK : Hid (CheckOK 13)) :
    Calls Try.prog 6 #[.agg #[.int .i64 o, .int .i64 k], .agg #[.int .i64 a, .int .i64 b, .int .i64 c, .int .i64 d], .agg #[.int .u64 P, .int .u64 Q]] w fun e w' => e = .returned (.bool true) ∧ Below w.heap.size w w' := by
  have PA := fun w => Lib.hid (picked_any a b P w hab.out hP)
  have PB := fun w => Lib.hid (picked_any c d Q w hcd.out hQ)
  clear hP hQ
  go_enter Try.func6, Try.ntmps6
  go_wp2_with fail
  refine (hs _).mono ?_
  rintro e1 w1 ⟨rfl, hB1⟩
  have z0 : w.heap.size + 1 + 1 < w1.heap.size := by have := hB1.size; simp at this; omega
  have z1 : w.heap.size + 1 < w1.heap.size := by omega
  have z2 : w.heap.size < w1.heap.size := by omega
  have o0 : w1.cell? ⟨w.heap.size, 0, none⟩ = some (.int .i64 o) := cell_later hB1 (by go_simp)
  have o1 : w1.cell? ⟨w.heap.size, 1, none⟩ = some (.int .i64 k) := cell_later hB1 (by go_simp)
  have l0 : w1.cell? ⟨w.heap.size + 1, 0, none⟩ = some (.int .i64 a) := cell_later hB1 (by go_simp)
  have l1 : w1.cell? ⟨w.heap.size + 1, 1, none⟩ = some (.int .i64 b) := cell_later hB1 (by go_simp)
  have l2 : w1.cell? ⟨w.heap.size + 1, 2, none⟩ = some (.int .i64 c) := cell_later hB1 (by go_simp)
  have l3 : w1.cell? ⟨w.heap.size + 1, 3, none⟩ = some (.int .i64 d) := cell_later hB1 (by go_simp)
  have n0 : w1.cell? ⟨w.heap.size + 1 + 1, 0, none⟩ = some (.int .u64 P) := cell_later hB1 (by go_simp)
  have n1 : w1.cell? ⟨w.heap.size + 1 + 1, 1, none⟩ = some (.int .u64 Q) := cell_later hB1 (by go_simp)
  have hT : Below w.heap.size w w1 := ((((Below.refl _ _).alloc (Nat.le_refl _) _).alloc (by simp) _).alloc (by simp; omega) _).trans (hB1.mono (by simp; omega))
  clear hB1
  go_upto_region 3 with fail
  go_cut [7, 8] (fun s7 s8 wx => ∃ p q : Nat, s7 = .pointer (some ⟨p, 0, none⟩) ∧ s8 = .pointer (some ⟨q, 0, none⟩) ∧ LeftIn w wx o k a b c d P Q p q)
  case first =>
    go_region
    · go_wp2
      go_meet
      exact ⟨w1.heap.size, w1.heap.size + 1, rfl, rfl, by go_simp, by go_simp, by go_simp, by go_simp, by go_simp, by go_simp, by go_simp, by go_simp, by (simp; try omega), by (simp; try omega), by (simp; try omega), by (simp; try omega), ((hT.alloc (by omega) _).alloc (by simp; omega) _).drew⟩
    · go_wp2
      go_meet
      exact ⟨w1.heap.size + 1, w1.heap.size, rfl, rfl, by go_simp, by go_simp, by go_simp, by go_simp, by go_simp, by go_simp, by go_simp, by go_simp, by (simp; try omega), by (simp; try omega), by (simp; try omega), by (simp; try omega), ((hT.alloc (by omega) _).alloc (by simp; omega) _).drew⟩
  case rest =>
    obtain ⟨p, q, rfl, rfl, I⟩ := hcut
    clear o0 o1 l0 l1 l2 l3 n0 n1 z0 z1 z2 hT
    have J := Lib.hid I
    obtain ⟨o0, o1, n0, n1, a0, a1, b0, b1, s0, s2, sp, sq, bl⟩ := I
    go_wp2_with fail
    refine (hA _).out.mono ?_
    clear o0 o1 n0 n1 a0 a1 b0 b1 s0 s2 sp sq bl
    rintro e2 w2 ⟨rfl, hB2⟩
    have J2 := Lib.hid (J.out.later hB2)
    clear hB2 J
    obtain ⟨o0, o1, n0, n1, a0, a1, b0, b1, s0, s2, sp, sq, bl⟩ := J2.out
    go_wp2_with fail
    have C3 : ConIn w (w2.alloc (.cells #[.int .i64 lo, .int .i64 hi, .bool s, .bool t, .bool u] 37)) o k a b c d P Q p q w2.heap.size lo hi s t u := ⟨J2.out.alloc _, by go_simp, by go_simp, by go_simp, by go_simp, by go_simp, by simp⟩
    clear o0 o1 n0 n1 a0 a1 b0 b1 s0 s2 sp sq bl J2
    generalize w2.alloc (.cells #[.int .i64 lo, .int .i64 hi, .bool s, .bool t, .bool u] 37) = W at *
    generalize w2.heap.size = n at *
    have ID : ConIn w W.drew o k a b c d P Q p q n lo hi s t u := C3.later (Below.refl _ _).drew
    obtain ⟨⟨o0, o1, n0, n1, a0, a1, b0, b1, s0, s2, sp, sq, bl⟩, x0, x1, x2, x3, x4, sn⟩ := C3
    clear s0 s2 sp sq bl sn x0 x1 x2 x3 x4
    go_region_held3 (fun w' => w'.cell? ⟨p, 0, none⟩ = some (.int .i64 a) ∧ w'.cell? ⟨p, 1, none⟩ = some (.int .i64 b) ∧ w'.cell? ⟨q, 0, none⟩ = some (.int .i64 c) ∧ w'.cell? ⟨q, 1, none⟩ = some (.int .i64 d) ∧ w'.cell? ⟨w.heap.size + 1 + 1, 0, none⟩ = some (.int .u64 P) ∧ w'.cell? ⟨w.heap.size + 1 + 1, 1, none⟩ = some (.int .u64 Q) ∧ ConIn w w' o k a b c d P Q p q n lo hi s t u)
      (first
        | exact ⟨a0, a1, b0, b1, n0, n1, ID⟩
        | (go_split_ands; exact ⟨cell_later hBq ‹_›, cell_later hBq ‹_›, cell_later hBq ‹_›, cell_later hBq ‹_›, cell_later hBq ‹_›, cell_later hBq ‹_›, ConIn.later ‹_› hBq⟩))
      (first
        | (go_at_call 27; (with_reducible refine (PA _).out.mono ?_); rintro eq wq ⟨⟨v1, rfl, hv1⟩, hBq⟩)
        | (go_at_call 27; (with_reducible refine (PB _).out.mono ?_); rintro eq wq ⟨⟨v2, rfl, hv2⟩, hBq⟩))
    clear a0 a1 b0 b1 n0 n1 o0 o1 ID
    rename_i hq
    obtain ⟨-, -, -, -, -, -, I4⟩ := hq
    clear hBq PA PB
    have J4 := Lib.hid I4
    clear I4
    have hd0 := fun w => Lib.hid (done_in o k a b c d v1 v2 lo hi s t u w hf.out hC.out hab.out hv1.1 hv1.2 hv2.1 hv2.2)
    have hd1 := fun w => Lib.hid (done_in o k a b c d a c lo hi s t u w hf.out hC.out hab.out (Int.le_refl _) hab.out.le (Int.le_refl _) hcd.out.le)
    have hd2 := fun w => Lib.hid (done_in o k a b c d a d lo hi s t u w hf.out hC.out hab.out (Int.le_refl _) hab.out.le hcd.out.le (Int.le_refl _))
    have hd3 := fun w => Lib.hid (done_in o k a b c d b c lo hi s t u w hf.out hC.out hab.out hab.out.le (Int.le_refl _) (Int.le_refl _) hcd.out.le)
    have hd4 := fun w => Lib.hid (done_in o k a b c d b d lo hi s t u w hf.out hC.out hab.out hab.out.le (Int.le_refl _) hcd.out.le (Int.le_refl _))
    clear hv1 hv2
    go_wp2_with fail
    go_loopw [13] (fun i wr => (i = .int .i64 0 ∨ i = .int .i64 1 ∨ i = .int .i64 2 ∨ i = .int .i64 3 ∨ i = .int .i64 4 ∨ i = .int .i64 5) ∧ ConIn w wr o k a b c d P Q p q n lo hi s t u) (fun i _ => (5 - intOf i).toNat)
    case atStart => exact ⟨.inl rfl, J4.out⟩
    case round =>
      obtain ⟨hi0, I⟩ := hrel
      clear J4
      have J := Lib.hid I
      obtain ⟨⟨o0, o1, n0, n1, a0, a1, b0, b1, s0, s2, sp, sq, bl⟩, x0, x1, x2, x3, x4, sn⟩ := I
      rcases hi0 with rfl | rfl | rfl | rfl | rfl | rfl
      · go_wp2_with fail
        refine (hd0 _).out.mono ?_
        clear o0 o1 n0 n1 a0 a1 b0 b1 s0 s2 sp sq bl x0 x1 x2 x3 x4 sn
        rintro e5 w5 ⟨⟨m, T, U, rfl, hT, hU, hN⟩, hB5⟩
        have J5 := Lib.hid (J.out.later hB5)
        clear hB5 J
        cases T
        · cases U
          · obtain ⟨rfl, g1, g2⟩ := hN rfl rfl
            obtain ⟨⟨o0, o1, n0, n1, a0, a1, b0, b1, s0, s2, sp, sq, bl⟩, x0, x1, x2, x3, x4, sn⟩ := J5.out
            go_wp2_with fail
            clear o0 o1 n0 n1 a0 a1 b0 b1 s0 s2 sp sq bl x0 x1 x2 x3 x4 sn
            go_roundw
            case rel => exact ⟨.inr (.inl rfl), J5.out.alloc _⟩
            case measure => simp [intOf]
          · obtain rfl := hU rfl
            clear hT hU hN
            obtain ⟨⟨o0, o1, n0, n1, a0, a1, b0, b1, s0, s2, sp, sq, bl⟩, x0, x1, x2, x3, x4, sn⟩ := J5.out
            go_wp2_with fail
            clear o0 o1 n0 n1 a0 a1 b0 b1 s0 s2 sp sq bl x0 x1 x2 x3 x4 sn
            go_roundw
            case rel => exact ⟨.inr (.inl rfl), J5.out.alloc _⟩
            case measure => simp [intOf]
        · cases U
          · obtain rfl := hT rfl
            clear hT hU hN
            obtain ⟨⟨o0, o1, n0, n1, a0, a1, b0, b1, s0, s2, sp, sq, bl⟩, x0, x1, x2, x3, x4, sn⟩ := J5.out
            go_wp2_with fail
            clear o0 o1 n0 n1 a0 a1 b0 b1 s0 s2 sp sq bl x0 x1 x2 x3 x4 sn
            go_roundw
            case rel => exact ⟨.inr (.inl rfl), J5.out.alloc _⟩
            case measure => simp [intOf]
          · obtain rfl := hT rfl
            obtain rfl := hU rfl
            clear hT hU hN
            obtain ⟨⟨o0, o1, n0, n1, a0, a1, b0, b1, s0, s2, sp, sq, bl⟩, x0, x1, x2, x3, x4, sn⟩ := J5.out
            go_wp2_with fail
            clear o0 o1 n0 n1 a0 a1 b0 b1 s0 s2 sp sq bl x0 x1 x2 x3 x4 sn
            go_roundw
            case rel => exact ⟨.inr (.inl rfl), J5.out.alloc _⟩
            case measure => simp [intOf]
      · go_wp2_with fail
        have lw0 : IntKind.i64.wrap (0 : Int) = 0 := by rw [IntKind.wrap_i64]; omega
        have lq : Int.tdiv 0 2 = 0 := by decide
        have lr : Int.tmod 0 2 = 0 := by decide
        have ix0 : ∀ w : World, (Instr.index 49 (.agg #[.int .i64 a, .int .i64 b]) (.int .i64 0)).run Try.prog w = .ok (.int .i64 a) w := fun _ => by kernel_rfl
        have ix1 : ∀ w : World, (Instr.index 49 (.agg #[.int .i64 c, .int .i64 d]) (.int .i64 0)).run Try.prog w = .ok (.int .i64 c) w := fun _ => by kernel_rfl
        have JD := Lib.hid (J.out.later (Below.refl _ _).drew)
        clear n0 n1 s0 s2 sp sq bl x0 x1 x2 x3 x4 sn
        go_region_held3 (fun w' => w'.cell? ⟨p, 0, none⟩ = some (.int .i64 a) ∧ w'.cell? ⟨p, 1, none⟩ = some (.int .i64 b) ∧ w'.cell? ⟨q, 0, none⟩ = some (.int .i64 c) ∧ w'.cell? ⟨q, 1, none⟩ = some (.int .i64 d))
          (exact ⟨a0, a1, b0, b1⟩)
          (fail)
        all_goals
          clear ix0 ix1 lq lr lw0 a0 a1 b0 b1 o0 o1 J
          obtain ⟨⟨o0, o1, n0, n1, a0, a1, b0, b1, s0, s2, sp, sq, bl⟩, x0, x1, x2, x3, x4, sn⟩ := JD.out
          go_wp2_with fail
          refine (hd1 _).out.mono ?_
          clear o0 o1 n0 n1 a0 a1 b0 b1 s0 s2 sp sq bl x0 x1 x2 x3 x4 sn
          rintro e5 w5 ⟨⟨m, T, U, rfl, hT, hU, hN⟩, hB5⟩
          have J5 := Lib.hid (JD.out.later hB5)
          clear hB5 JD
          cases T
          · cases U
            · obtain ⟨rfl, g1, g2⟩ := hN rfl rfl
              obtain ⟨⟨o0, o1, n0, n1, a0, a1, b0, b1, s0, s2, sp, sq, bl⟩, x0, x1, x2, x3, x4, sn⟩ := J5.out
              go_wp2_with fail
              clear o0 o1 n0 n1 a0 a1 b0 b1 s0 s2 sp sq bl x0 x1 x2 x3 x4 sn
              go_roundw
              case rel => exact ⟨.inr (.inr (.inl rfl)), J5.out.alloc _⟩
              case measure => simp [intOf]
            · obtain rfl := hU rfl
              clear hT hU hN
              obtain ⟨⟨o0, o1, n0, n1, a0, a1, b0, b1, s0, s2, sp, sq, bl⟩, x0, x1, x2, x3, x4, sn⟩ := J5.out
              go_wp2_with fail
              clear o0 o1 n0 n1 a0 a1 b0 b1 s0 s2 sp sq bl x0 x1 x2 x3 x4 sn
              go_roundw
              case rel => exact ⟨.inr (.inr (.inl rfl)), J5.out.alloc _⟩
              case measure => simp [intOf]
          · cases U
            · obtain rfl := hT rfl
              clear hT hU hN
              obtain ⟨⟨o0, o1, n0, n1, a0, a1, b0, b1, s0, s2, sp, sq, bl⟩, x0, x1, x2, x3, x4, sn⟩ := J5.out
              go_wp2_with fail
              clear o0 o1 n0 n1 a0 a1 b0 b1 s0 s2 sp sq bl x0 x1 x2 x3 x4 sn
              go_roundw
              case rel => exact ⟨.inr (.inr (.inl rfl)), J5.out.alloc _⟩
              case measure => simp [intOf]
            · obtain rfl := hT rfl
              obtain rfl := hU rfl
              clear hT hU hN
              obtain ⟨⟨o0, o1, n0, n1, a0, a1, b0, b1, s0, s2, sp, sq, bl⟩, x0, x1, x2, x3, x4, sn⟩ := J5.out
              go_wp2_with fail
              clear o0 o1 n0 n1 a0 a1 b0 b1 s0 s2 sp sq bl x0 x1 x2 x3 x4 sn
              go_roundw
              case rel => exact ⟨.inr (.inr (.inl rfl)), J5.out.alloc _⟩
              case measure => simp [intOf]
      · go_wp2_with fail
        have lw0 : IntKind.i64.wrap (0 : Int) = 0 := by rw [IntKind.wrap_i64]; omega
        have lw1 : IntKind.i64.wrap (1 : Int) = 1 := by rw [IntKind.wrap_i64]; omega
        have lq : Int.tdiv 1 2 = 0 := by decide
        have lr : Int.tmod 1 2 = 1 := by decide
        have ix0 : ∀ w : World, (Instr.index 49 (.agg #[.int .i64 a, .int .i64 b]) (.int .i64 0)).run Try.prog w = .ok (.int .i64 a) w := fun _ => by kernel_rfl
        have ix1 : ∀ w : World, (Instr.index 49 (.agg #[.int .i64 c, .int .i64 d]) (.int .i64 1)).run Try.prog w = .ok (.int .i64 d) w := fun _ => by kernel_rfl
        have JD := Lib.hid (J.out.later (Below.refl _ _).drew)
        clear n0 n1 s0 s2 sp sq bl x0 x1 x2 x3 x4 sn
        go_region_held3 (fun w' => w'.cell? ⟨p, 0, none⟩ = some (.int .i64 a) ∧ w'.cell? ⟨p, 1, none⟩ = some (.int .i64 b) ∧ w'.cell? ⟨q, 0, none⟩ = some (.int .i64 c) ∧ w'.cell? ⟨q, 1, none⟩ = some (.int .i64 d))
          (exact ⟨a0, a1, b0, b1⟩)
          (fail)
        all_goals
          clear ix0 ix1 lq lr lw0 lw1 a0 a1 b0 b1 o0 o1 J
          obtain ⟨⟨o0, o1, n0, n1, a0, a1, b0, b1, s0, s2, sp, sq, bl⟩, x0, x1, x2, x3, x4, sn⟩ := JD.out
          go_wp2_with fail
          refine (hd2 _).out.mono ?_
          clear o0 o1 n0 n1 a0 a1 b0 b1 s0 s2 sp sq bl x0 x1 x2 x3 x4 sn
          rintro e5 w5 ⟨⟨m, T, U, rfl, hT, hU, hN⟩, hB5⟩
          have J5 := Lib.hid (JD.out.later hB5)
          clear hB5 JD
          cases T
          · cases U
            · obtain ⟨rfl, g1, g2⟩ := hN rfl rfl
              obtain ⟨⟨o0, o1, n0, n1, a0, a1, b0, b1, s0, s2, sp, sq, bl⟩, x0, x1, x2, x3, x4, sn⟩ := J5.out
              go_wp2_with fail
              clear o0 o1 n0 n1 a0 a1 b0 b1 s0 s2 sp sq bl x0 x1 x2 x3 x4 sn
              go_roundw
              case rel => exact ⟨.inr (.inr (.inr (.inl rfl))), J5.out.alloc _⟩
              case measure => simp [intOf]
            · obtain rfl := hU rfl
              clear hT hU hN
              obtain ⟨⟨o0, o1, n0, n1, a0, a1, b0, b1, s0, s2, sp, sq, bl⟩, x0, x1, x2, x3, x4, sn⟩ := J5.out
              go_wp2_with fail
              clear o0 o1 n0 n1 a0 a1 b0 b1 s0 s2 sp sq bl x0 x1 x2 x3 x4 sn
              go_roundw
              case rel => exact ⟨.inr (.inr (.inr (.inl rfl))), J5.out.alloc _⟩
              case measure => simp [intOf]
          · cases U
            · obtain rfl := hT rfl
              clear hT hU hN
              obtain ⟨⟨o0, o1, n0, n1, a0, a1, b0, b1, s0, s2, sp, sq, bl⟩, x0, x1, x2, x3, x4, sn⟩ := J5.out
              go_wp2_with fail
              clear o0 o1 n0 n1 a0 a1 b0 b1 s0 s2 sp sq bl x0 x1 x2 x3 x4 sn
              go_roundw
              case rel => exact ⟨.inr (.inr (.inr (.inl rfl))), J5.out.alloc _⟩
              case measure => simp [intOf]
            · obtain rfl := hT rfl
              obtain rfl := hU rfl
              clear hT hU hN
              obtain ⟨⟨o0, o1, n0, n1, a0, a1, b0, b1, s0, s2, sp, sq, bl⟩, x0, x1, x2, x3, x4, sn⟩ := J5.out
              go_wp2_with fail
              clear o0 o1 n0 n1 a0 a1 b0 b1 s0 s2 sp sq bl x0 x1 x2 x3 x4 sn
              go_roundw
              case rel => exact ⟨.inr (.inr (.inr (.inl rfl))), J5.out.alloc _⟩
              case measure => simp [intOf]
      · go_wp2_with fail
        have lw0 : IntKind.i64.wrap (0 : Int) = 0 := by rw [IntKind.wrap_i64]; omega
        have lw1 : IntKind.i64.wrap (1 : Int) = 1 := by rw [IntKind.wrap_i64]; omega
        have lw2 : IntKind.i64.wrap (2 : Int) = 2 := by rw [IntKind.wrap_i64]; omega
        have lq : Int.tdiv 2 2 = 1 := by decide
        have lr : Int.tmod 2 2 = 0 := by decide
        have ix0 : ∀ w : World, (Instr.index 49 (.agg #[.int .i64 a, .int .i64 b]) (.int .i64 1)).run Try.prog w = .ok (.int .i64 b) w := fun _ => by kernel_rfl
        have ix1 : ∀ w : World, (Instr.index 49 (.agg #[.int .i64 c, .int .i64 d]) (.int .i64 0)).run Try.prog w = .ok (.int .i64 c) w := fun _ => by kernel_rfl
        have JD := Lib.hid (J.out.later (Below.refl _ _).drew)
        clear n0 n1 s0 s2 sp sq bl x0 x1 x2 x3 x4 sn
        go_region_held3 (fun w' => w'.cell? ⟨p, 0, none⟩ = some (.int .i64 a) ∧ w'.cell? ⟨p, 1, none⟩ = some (.int .i64 b) ∧ w'.cell? ⟨q, 0, none⟩ = some (.int .i64 c) ∧ w'.cell? ⟨q, 1, none⟩ = some (.int .i64 d))
          (exact ⟨a0, a1, b0, b1⟩)
          (fail)
        all_goals
          clear ix0 ix1 lq lr lw0 lw1 lw2 a0 a1 b0 b1 o0 o1 J
          obtain ⟨⟨o0, o1, n0, n1, a0, a1, b0, b1, s0, s2, sp, sq, bl⟩, x0, x1, x2, x3, x4, sn⟩ := JD.out
          go_wp2_with fail
          refine (hd3 _).out.mono ?_
          clear o0 o1 n0 n1 a0 a1 b0 b1 s0 s2 sp sq bl x0 x1 x2 x3 x4 sn
          rintro e5 w5 ⟨⟨m, T, U, rfl, hT, hU, hN⟩, hB5⟩
          have J5 := Lib.hid (JD.out.later hB5)
          clear hB5 JD
          cases T
          · cases U
            · obtain ⟨rfl, g1, g2⟩ := hN rfl rfl
              obtain ⟨⟨o0, o1, n0, n1, a0, a1, b0, b1, s0, s2, sp, sq, bl⟩, x0, x1, x2, x3, x4, sn⟩ := J5.out
              go_wp2_with fail
              clear o0 o1 n0 n1 a0 a1 b0 b1 s0 s2 sp sq bl x0 x1 x2 x3 x4 sn
              go_roundw
              case rel => exact ⟨.inr (.inr (.inr (.inr (.inl rfl)))), J5.out.alloc _⟩
              case measure => simp [intOf]
            · obtain rfl := hU rfl
              clear hT hU hN
              obtain ⟨⟨o0, o1, n0, n1, a0, a1, b0, b1, s0, s2, sp, sq, bl⟩, x0, x1, x2, x3, x4, sn⟩ := J5.out
              go_wp2_with fail
              clear o0 o1 n0 n1 a0 a1 b0 b1 s0 s2 sp sq bl x0 x1 x2 x3 x4 sn
              go_roundw
              case rel => exact ⟨.inr (.inr (.inr (.inr (.inl rfl)))), J5.out.alloc _⟩
              case measure => simp [intOf]
          · cases U
            · obtain rfl := hT rfl
              clear hT hU hN
              obtain ⟨⟨o0, o1, n0, n1, a0, a1, b0, b1, s0, s2, sp, sq, bl⟩, x0, x1, x2, x3, x4, sn⟩ := J5.out
              go_wp2_with fail
              clear o0 o1 n0 n1 a0 a1 b0 b1 s0 s2 sp sq bl x0 x1 x2 x3 x4 sn
              go_roundw
              case rel => exact ⟨.inr (.inr (.inr (.inr (.inl rfl)))), J5.out.alloc _⟩
              case measure => simp [intOf]
            · obtain rfl := hT rfl
              obtain rfl := hU rfl
              clear hT hU hN
              obtain ⟨⟨o0, o1, n0, n1, a0, a1, b0, b1, s0, s2, sp, sq, bl⟩, x0, x1, x2, x3, x4, sn⟩ := J5.out
              go_wp2_with fail
              clear o0 o1 n0 n1 a0 a1 b0 b1 s0 s2 sp sq bl x0 x1 x2 x3 x4 sn
              go_roundw
              case rel => exact ⟨.inr (.inr (.inr (.inr (.inl rfl)))), J5.out.alloc _⟩
              case measure => simp [intOf]
      · go_wp2_with fail
        have lw1 : IntKind.i64.wrap (1 : Int) = 1 := by rw [IntKind.wrap_i64]; omega
        have lw3 : IntKind.i64.wrap (3 : Int) = 3 := by rw [IntKind.wrap_i64]; omega
        have lq : Int.tdiv 3 2 = 1 := by decide
        have lr : Int.tmod 3 2 = 1 := by decide
        have ix0 : ∀ w : World, (Instr.index 49 (.agg #[.int .i64 a, .int .i64 b]) (.int .i64 1)).run Try.prog w = .ok (.int .i64 b) w := fun _ => by kernel_rfl
        have ix1 : ∀ w : World, (Instr.index 49 (.agg #[.int .i64 c, .int .i64 d]) (.int .i64 1)).run Try.prog w = .ok (.int .i64 d) w := fun _ => by kernel_rfl
        have JD := Lib.hid (J.out.later (Below.refl _ _).drew)
        clear n0 n1 s0 s2 sp sq bl x0 x1 x2 x3 x4 sn
        go_region_held3 (fun w' => w'.cell? ⟨p, 0, none⟩ = some (.int .i64 a) ∧ w'.cell? ⟨p, 1, none⟩ = some (.int .i64 b) ∧ w'.cell? ⟨q, 0, none⟩ = some (.int .i64 c) ∧ w'.cell? ⟨q, 1, none⟩ = some (.int .i64 d))
          (exact ⟨a0, a1, b0, b1⟩)
          (fail)
        all_goals
          clear ix0 ix1 lq lr lw1 lw3 a0 a1 b0 b1 o0 o1 J
          obtain ⟨⟨o0, o1, n0, n1, a0, a1, b0, b1, s0, s2, sp, sq, bl⟩, x0, x1, x2, x3, x4, sn⟩ := JD.out
          go_wp2_with fail
          refine (hd4 _).out.mono ?_
          clear o0 o1 n0 n1 a0 a1 b0 b1 s0 s2 sp sq bl x0 x1 x2 x3 x4 sn
          rintro e5 w5 ⟨⟨m, T, U, rfl, hT, hU, hN⟩, hB5⟩
          have J5 := Lib.hid (JD.out.later hB5)
          clear hB5 JD
          cases T
          · cases U
            · obtain ⟨rfl, g1, g2⟩ := hN rfl rfl
              obtain ⟨⟨o0, o1, n0, n1, a0, a1, b0, b1, s0, s2, sp, sq, bl⟩, x0, x1, x2, x3, x4, sn⟩ := J5.out
              go_wp2_with fail
              clear o0 o1 n0 n1 a0 a1 b0 b1 s0 s2 sp sq bl x0 x1 x2 x3 x4 sn
              go_roundw
              case rel => exact ⟨.inr (.inr (.inr (.inr (.inr (rfl))))), J5.out.alloc _⟩
              case measure => simp [intOf]
            · obtain rfl := hU rfl
              clear hT hU hN
              obtain ⟨⟨o0, o1, n0, n1, a0, a1, b0, b1, s0, s2, sp, sq, bl⟩, x0, x1, x2, x3, x4, sn⟩ := J5.out
              go_wp2_with fail
              clear o0 o1 n0 n1 a0 a1 b0 b1 s0 s2 sp sq bl x0 x1 x2 x3 x4 sn
              go_roundw
              case rel => exact ⟨.inr (.inr (.inr (.inr (.inr (rfl))))), J5.out.alloc _⟩
              case measure => simp [intOf]
          · cases U
            · obtain rfl := hT rfl
              clear hT hU hN
              obtain ⟨⟨o0, o1, n0, n1, a0, a1, b0, b1, s0, s2, sp, sq, bl⟩, x0, x1, x2, x3, x4, sn⟩ := J5.out
              go_wp2_with fail
              clear o0 o1 n0 n1 a0 a1 b0 b1 s0 s2 sp sq bl x0 x1 x2 x3 x4 sn
              go_roundw
              case rel => exact ⟨.inr (.inr (.inr (.inr (.inr (rfl))))), J5.out.alloc _⟩
              case measure => simp [intOf]
            · obtain rfl := hT rfl
              obtain rfl := hU rfl
              clear hT hU hN
              obtain ⟨⟨o0, o1, n0, n1, a0, a1, b0, b1, s0, s2, sp, sq, bl⟩, x0, x1, x2, x3, x4, sn⟩ := J5.out
              go_wp2_with fail
              clear o0 o1 n0 n1 a0 a1 b0 b1 s0 s2 sp sq bl x0 x1 x2 x3 x4 sn
              go_roundw
              case rel => exact ⟨.inr (.inr (.inr (.inr (.inr (rfl))))), J5.out.alloc _⟩
              case measure => simp [intOf]
      · go_wp2_with fail
        have KO := fun w => Lib.hid (law_kindOf o k w)
        cases s
        · clear hC hK KO
          go_quiet (fail)
          go_wp2
          go_ret
          exact ⟨rfl, below_draws J.out.li.bl _⟩
        · have hc : checkErr (resK o k) lo hi = 0 := by
            have := hC.out.ok rfl
            unfold checkErr; rw [if_pos]
            refine ⟨?_, this.2.1, this.1, this.2.2⟩
            have hf' := hf.out
            simp only [fitsB, decide_eq_true_eq] at hf'
            unfold fullErr resK
            by_cases h11 : 11 ≤ o
            · simp [h11]
            · rw [if_neg h11, if_pos (by omega)]
          have KC := fun w => Lib.hid (hK.out (resK o k) lo hi w)
          rw [hc] at KC
          clear hc hC hK
          have JD := Lib.hid (J.out.later (Below.refl _ _).drew)
          clear n0 n1 a0 a1 b0 b1 s0 s2 sp sq bl x3 x4 sn
          generalize resK o k = kk at *
          go_region_held3 (fun w' => w'.cell? ⟨w.heap.size, 0, none⟩ = some (.int .i64 o) ∧ w'.cell? ⟨w.heap.size, 1, none⟩ = some (.int .i64 k) ∧ w'.cell? ⟨n, 0, none⟩ = some (.int .i64 lo) ∧ w'.cell? ⟨n, 1, none⟩ = some (.int .i64 hi) ∧ w'.cell? ⟨n, 2, none⟩ = some (.bool true) ∧ ConIn w w' o k a b c d P Q p q n lo hi true t u)
            (first
              | exact ⟨o0, o1, x0, x1, x2, JD.out⟩
              | (go_split_ands; exact ⟨cell_later hBq ‹_›, cell_later hBq ‹_›, cell_later hBq ‹_›, cell_later hBq ‹_›, cell_later hBq ‹_›, ConIn.later ‹_› hBq⟩))
            (first
              | (go_at_call 29; (with_reducible refine (KO _).out.mono ?_); rintro eq wq ⟨rfl, hBq⟩)
              | (go_at_call 13; (with_reducible refine (KC _).out.mono ?_); rintro eq wq ⟨rfl, hBq⟩))
          all_goals
            rename_i hq
            obtain ⟨-, -, -, -, -, I9⟩ := hq
            go_wp2
            go_ret
            exact ⟨rfl, I9.li.bl⟩

end Go.Proofs.Ytgkhldbnljdeiaa
