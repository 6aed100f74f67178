/- The walk of the law RangesUnary for numbers of 64 bits. -/
import Derived.Test.YtomjcpgjlhencaaKLawUnaryA
set_option linter.unusedSimpArgs false
set_option linter.unusedVariables false
namespace Go.Proofs.Ytomjcpgjlhencaa
open Go.RowKit

set_option maxRecDepth 100000 in
set_option maxHeartbeats 4000000 in
theorem unary_walk_big (hs : ShownOK') (k a b P : Int) (hP : 0 ≤ P) (hk : (k == 2) = false) (x1 y1 e1 x2 y2 e2 x3 y3 e3 z0 z1 ez : Int) (w : World)
    (h1 : UnaOut 19 1 k a b x1 y1 e1) (c1 : Hid ((e1 == 0) = true ∨ (e1 == 0) = false)) (u1 : Hid (∀ v : Int, (Ok64 a b → a ≤ v ∧ v ≤ b) → e1 = 0 → checkErr k x1 y1 = 0 ∧ x1 ≤ wrap64 (-v) ∧ wrap64 (-v) ≤ y1))
    (h2 : UnaOut 19 2 k a b x2 y2 e2) (c2 : Hid ((e2 == 0) = true ∨ (e2 == 0) = false)) (u2 : Hid (∀ v : Int, (Ok64 a b → a ≤ v ∧ v ≤ b) → e2 = 0 → checkErr k x2 y2 = 0 ∧ x2 ≤ wrap64 (1 - v) ∧ wrap64 (1 - v) ≤ y2))
    (h3 : UnaOut 19 3 k a b x3 y3 e3) (c3 : Hid ((e3 == 0) = true ∨ (e3 == 0) = false)) (u3 : Hid (∀ v : Int, (Ok64 a b → a ≤ v ∧ v ≤ b) → e3 = 0 → checkErr k x3 y3 = 0 ∧ x3 ≤ bits .xor .i64 (-1) v ∧ bits .xor .i64 (-1) v ≤ y3))
    (hT : SmlOut 23 a b z0 z1 ez) (cT : Hid ((ez == 0) = true ∨ (ez == 0) = false)) (uT : Hid (∀ v : Int, (Ok64 a b → a ≤ v ∧ v ≤ b) → ez = 0 → z0 ≤ bits .and .i64 v 255 ∧ bits .and .i64 v 255 ≤ z1 ∧ 0 ≤ z0 ∧ z1 ≤ 255))
    (hK : Hid (CheckOK 13)) :
    Calls Try.prog 7 #[.int .i64 k, .agg #[.int .i64 a, .int .i64 b], .int .u64 P] w fun e w' => e = .returned (.bool true) ∧ Below w.heap.size w w' := by
  have PA := fun w => Lib.hid (picked_some a b P w hP)
  clear hP
  have hk' := Lib.hid hk
  have H1 := fun w => Lib.hid (h1 w).out
  have H2 := fun w => Lib.hid (h2 w).out
  have H3 := fun w => Lib.hid (h3 w).out
  go_enter Try.func7, Try.ntmps7
  go_wp2_with fail
  refine (hs _).mono ?_
  rintro e0 w1 ⟨rfl, hB1⟩
  have z1' : w.heap.size < w1.heap.size := by have := hB1.size; simp at this; omega
  have a0 : w1.cell? ⟨w.heap.size, 0, none⟩ = some (.int .i64 a) := cell_later hB1 (by go_simp)
  have a1 : w1.cell? ⟨w.heap.size, 1, none⟩ = some (.int .i64 b) := cell_later hB1 (by go_simp)
  have bl : Below w.heap.size w w1 := ((Below.refl _ _).alloc (Nat.le_refl _) _).trans (hB1.mono (by simp))
  clear hB1
  go_wp2_with fail
  refine (PA _).out.mono ?_
  rintro e2' w2 ⟨⟨v, rfl, hv⟩, hB2⟩
  replace a0 := cell_later hB2 a0
  replace a1 := cell_later hB2 a1
  replace bl := bl.trans (hB2.mono (Nat.le_of_lt z1'))
  have z2' : w.heap.size < w2.heap.size := Nat.lt_of_lt_of_le z1' hB2.size
  clear hB2 z1' PA
  have V1 := Lib.hid (u1.out v hv)
  have V2 := Lib.hid (u2.out v hv)
  have V3 := Lib.hid (u3.out v hv)
  have VT := Lib.hid (uT.out v hv)
  clear hv u1 u2 u3 uT
  have J := Lib.hid (show UnIn w (w2.alloc (.cells #[.int .i64 1, .int .i64 2, .int .i64 3] 55)) a b w2.heap.size from ⟨by go_simp, by go_simp, by go_simp, by go_simp, by go_simp, by simp; omega, by simp, bl.alloc (by omega) _⟩)
  go_wp2_with fail
  clear a0 a1 bl z2'
  generalize w2.alloc (.cells #[.int .i64 1, .int .i64 2, .int .i64 3] 55) = W at *
  generalize w2.heap.size = m at *
  go_loopw [9] (fun i wr => (i = .int .i64 0 ∨ i = .int .i64 1 ∨ i = .int .i64 2 ∨ i = .int .i64 3) ∧ UnIn w wr a b m) (fun i _ => (3 - intOf i).toNat)
  case atStart => exact ⟨.inl rfl, J.out⟩
  case round =>
    obtain ⟨hi0, I⟩ := hrel
    clear J
    have J := Lib.hid I
    obtain ⟨a0, a1, p0, p1, p2, s0, sm, bl⟩ := I
    rcases hi0 with rfl | rfl | rfl | rfl
    · go_upto_region 8 with fail
      go_cut [10, 11] (fun s10 s11 wx => ∃ n : Nat, s10 = .pointer (some ⟨n, 0, none⟩) ∧ s11 = .int .i64 e1 ∧ UnIn w wx a b m ∧ n < wx.heap.size ∧ wx.cell? ⟨n, 0, none⟩ = some (.int .i64 x1) ∧ wx.cell? ⟨n, 1, none⟩ = some (.int .i64 y1))
      case first =>
        clear bl
        have JB := Lib.hid (J.out.later (Below.refl _ _).drew)
        go_region_with ((go_at_call 19; (with_reducible refine (H1 _).out.mono ?_); rintro eq wq ⟨rfl, hBq⟩; obtain ⟨hc, hf⟩ := bcell hBq))
        all_goals
          go_wp2
          go_meet
          first
            | exact ⟨_, rfl, rfl, (JB.out.later hBq).later ((Below.refl _ _).alloc (Nat.le_refl _) _), by simp, by go_simp, by go_simp⟩
            | exact ⟨_, rfl, rfl, ((JB.out.later ((Below.refl _ _).alloc (Nat.le_refl _) _)).later hBq).setNew _ JB.out.s0 JB.out.sm _ _, (by have := hBq.size; simp [World.setCell] at this ⊢; omega), by go_simp, by go_simp⟩
            | exact ⟨_, rfl, rfl, ((J.out.later ((Below.refl _ _).alloc (Nat.le_refl _) _).drew).later hBq).setNew _ J.out.s0 J.out.sm _ _, (by have := hBq.size; simp [World.setCell] at this ⊢; omega), by go_simp, by go_simp⟩
      case rest =>
        obtain ⟨n, rfl, rfl, I2, sn, q0, q1⟩ := hcut
        clear a0 a1 p0 p1 p2 s0 sm bl J
        have J2 := Lib.hid I2
        obtain ⟨a0, a1, p0, p1, p2, s0, sm, bl⟩ := I2
        rcases c1.out with h0 | h0
        · obtain rfl : e1 = 0 := by simpa using h0
          obtain ⟨ck, g1, g2⟩ := V1.out rfl
          have KC := fun w => Lib.hid (hK.out k x1 y1 w)
          rw [ck] at KC
          clear ck h0
          go_wp2_with fail
          refine (KC _).out.mono ?_
          clear a0 a1 p0 p1 p2 s0 sm bl q0 q1 sn
          rintro e9 w9 ⟨rfl, hB9⟩
          have J3 := Lib.hid (J2.out.later hB9)
          clear hB9 J2
          go_wp2_with fail
          go_roundw
          case rel => exact ⟨.inr (.inl rfl), J3.out⟩
          case measure => simp [intOf]
        · have h1 : (e1 != 0) = true := by simpa using h0
          clear q0 q1 sn a0 a1 p0 p1 p2 s0 sm bl
          go_wp2_with fail
          go_roundw
          case rel => exact ⟨.inr (.inl rfl), J2.out⟩
          case measure => simp [intOf]
    · go_upto_region 8 with fail
      go_cut [10, 11] (fun s10 s11 wx => ∃ n : Nat, s10 = .pointer (some ⟨n, 0, none⟩) ∧ s11 = .int .i64 e2 ∧ UnIn w wx a b m ∧ n < wx.heap.size ∧ wx.cell? ⟨n, 0, none⟩ = some (.int .i64 x2) ∧ wx.cell? ⟨n, 1, none⟩ = some (.int .i64 y2))
      case first =>
        clear bl
        have JB := Lib.hid (J.out.later (Below.refl _ _).drew)
        go_region_with ((go_at_call 19; (with_reducible refine (H2 _).out.mono ?_); rintro eq wq ⟨rfl, hBq⟩; obtain ⟨hc, hf⟩ := bcell hBq))
        all_goals
          go_wp2
          go_meet
          first
            | exact ⟨_, rfl, rfl, (JB.out.later hBq).later ((Below.refl _ _).alloc (Nat.le_refl _) _), by simp, by go_simp, by go_simp⟩
            | exact ⟨_, rfl, rfl, ((JB.out.later ((Below.refl _ _).alloc (Nat.le_refl _) _)).later hBq).setNew _ JB.out.s0 JB.out.sm _ _, (by have := hBq.size; simp [World.setCell] at this ⊢; omega), by go_simp, by go_simp⟩
            | exact ⟨_, rfl, rfl, ((J.out.later ((Below.refl _ _).alloc (Nat.le_refl _) _).drew).later hBq).setNew _ J.out.s0 J.out.sm _ _, (by have := hBq.size; simp [World.setCell] at this ⊢; omega), by go_simp, by go_simp⟩
      case rest =>
        obtain ⟨n, rfl, rfl, I2, sn, q0, q1⟩ := hcut
        clear a0 a1 p0 p1 p2 s0 sm bl J
        have J2 := Lib.hid I2
        obtain ⟨a0, a1, p0, p1, p2, s0, sm, bl⟩ := I2
        rcases c2.out with h0 | h0
        · obtain rfl : e2 = 0 := by simpa using h0
          obtain ⟨ck, g1, g2⟩ := V2.out rfl
          have KC := fun w => Lib.hid (hK.out k x2 y2 w)
          rw [ck] at KC
          clear ck h0
          go_wp2_with fail
          refine (KC _).out.mono ?_
          clear a0 a1 p0 p1 p2 s0 sm bl q0 q1 sn
          rintro e9 w9 ⟨rfl, hB9⟩
          have J3 := Lib.hid (J2.out.later hB9)
          clear hB9 J2
          go_wp2_with fail
          go_roundw
          case rel => exact ⟨.inr (.inr (.inl rfl)), J3.out⟩
          case measure => simp [intOf]
        · have h1 : (e2 != 0) = true := by simpa using h0
          clear q0 q1 sn a0 a1 p0 p1 p2 s0 sm bl
          go_wp2_with fail
          go_roundw
          case rel => exact ⟨.inr (.inr (.inl rfl)), J2.out⟩
          case measure => simp [intOf]
    · go_upto_region 8 with fail
      go_cut [10, 11] (fun s10 s11 wx => ∃ n : Nat, s10 = .pointer (some ⟨n, 0, none⟩) ∧ s11 = .int .i64 e3 ∧ UnIn w wx a b m ∧ n < wx.heap.size ∧ wx.cell? ⟨n, 0, none⟩ = some (.int .i64 x3) ∧ wx.cell? ⟨n, 1, none⟩ = some (.int .i64 y3))
      case first =>
        clear bl
        have JB := Lib.hid (J.out.later (Below.refl _ _).drew)
        go_region_with ((go_at_call 19; (with_reducible refine (H3 _).out.mono ?_); rintro eq wq ⟨rfl, hBq⟩; obtain ⟨hc, hf⟩ := bcell hBq))
        all_goals
          go_wp2
          go_meet
          first
            | exact ⟨_, rfl, rfl, (JB.out.later hBq).later ((Below.refl _ _).alloc (Nat.le_refl _) _), by simp, by go_simp, by go_simp⟩
            | exact ⟨_, rfl, rfl, ((JB.out.later ((Below.refl _ _).alloc (Nat.le_refl _) _)).later hBq).setNew _ JB.out.s0 JB.out.sm _ _, (by have := hBq.size; simp [World.setCell] at this ⊢; omega), by go_simp, by go_simp⟩
            | exact ⟨_, rfl, rfl, ((J.out.later ((Below.refl _ _).alloc (Nat.le_refl _) _).drew).later hBq).setNew _ J.out.s0 J.out.sm _ _, (by have := hBq.size; simp [World.setCell] at this ⊢; omega), by go_simp, by go_simp⟩
      case rest =>
        obtain ⟨n, rfl, rfl, I2, sn, q0, q1⟩ := hcut
        clear a0 a1 p0 p1 p2 s0 sm bl J
        have J2 := Lib.hid I2
        obtain ⟨a0, a1, p0, p1, p2, s0, sm, bl⟩ := I2
        rcases c3.out with h0 | h0
        · obtain rfl : e3 = 0 := by simpa using h0
          obtain ⟨ck, g1, g2⟩ := V3.out rfl
          have KC := fun w => Lib.hid (hK.out k x3 y3 w)
          rw [ck] at KC
          clear ck h0
          go_wp2_with fail
          refine (KC _).out.mono ?_
          clear a0 a1 p0 p1 p2 s0 sm bl q0 q1 sn
          rintro e9 w9 ⟨rfl, hB9⟩
          have J3 := Lib.hid (J2.out.later hB9)
          clear hB9 J2
          go_wp2_with fail
          go_roundw
          case rel => exact ⟨.inr (.inr (.inr rfl)), J3.out⟩
          case measure => simp [intOf]
        · have h1 : (e3 != 0) = true := by simpa using h0
          clear q0 q1 sn a0 a1 p0 p1 p2 s0 sm bl
          go_wp2_with fail
          go_roundw
          case rel => exact ⟨.inr (.inr (.inr rfl)), J2.out⟩
          case measure => simp [intOf]
    · go_wp2_with fail
      refine (hT _).out.mono ?_
      clear a0 a1 p0 p1 p2 s0 sm bl
      rintro e9 w9 ⟨rfl, hB9⟩
      have J3 := Lib.hid (J.out.later hB9)
      clear hB9 J
      rcases cT.out with h0 | h0
      · obtain rfl : ez = 0 := by simpa using h0
        obtain ⟨g1, g2, g3, g4⟩ := VT.out rfl
        clear h0
        go_wp2
        go_ret
        exact ⟨rfl, J3.out.bl.alloc (by have := J3.out.s0; omega) _⟩
      · have h1 : (ez != 0) = true := by simpa using h0
        go_wp2
        go_ret
        exact ⟨rfl, J3.out.bl.alloc (by have := J3.out.s0; omega) _⟩

end Go.Proofs.Ytomjcpgjlhencaa
