/- LawTightA, LawTightS1, LawTightS2, LawTightS3. -/
import Derived.RegionTactic
import Derived.BigRegion
import Derived.Deep.RegionHeld3
import Derived.Deep.DeepCutAuto
import Derived.Deep.CutBlock
import Derived.Test.YtgkhldbnljdeiaaKLawPickedToRngK
import Derived.Test.YtgkhldbnljdeiaaKShownToLawDone
import Derived.Test.YtgkhldbnljdeiaaKFrameTightToRangesH
set_option linter.unusedSimpArgs false
set_option linter.unusedVariables false
/- The variables of the walk of the law RangesTight; the walk where Binary returns an error. -/
namespace Go.Proofs.Ytgkhldbnljdeiaa
open Go.RowKit RangesMath

/-- The variables of RangesTight ahead of Join: q, more, and the two ranges. -/
structure TgPre (w wx : World) (o k a b c d m0 m1 m2 m3 : Int) (p q : Nat) : Prop where
  o0 : wx.cell? ⟨w.heap.size, 0, none⟩ = some (.int .i64 o)
  o1 : wx.cell? ⟨w.heap.size, 1, none⟩ = some (.int .i64 k)
  n0 : wx.cell? ⟨w.heap.size + 1 + 1, 0, none⟩ = some (.int .i64 m0)
  n1 : wx.cell? ⟨w.heap.size + 1 + 1, 1, none⟩ = some (.int .i64 m1)
  n2 : wx.cell? ⟨w.heap.size + 1 + 1, 2, none⟩ = some (.int .i64 m2)
  n3 : wx.cell? ⟨w.heap.size + 1 + 1, 3, none⟩ = some (.int .i64 m3)
  a0 : wx.cell? ⟨p, 0, none⟩ = some (.int .i64 a)
  a1 : wx.cell? ⟨p, 1, none⟩ = some (.int .i64 b)
  b0 : wx.cell? ⟨q, 0, none⟩ = some (.int .i64 c)
  b1 : wx.cell? ⟨q, 1, none⟩ = some (.int .i64 d)
  s0 : w.heap.size < wx.heap.size
  s2 : w.heap.size + 1 + 1 < wx.heap.size
  sp : p < wx.heap.size
  sq : q < wx.heap.size
  bl : Below w.heap.size w wx
theorem TgPre.later {w wx wy : World} {o k a b c d m0 m1 m2 m3 : Int} {p q : Nat} (h : TgPre w wx o k a b c d m0 m1 m2 m3 p q) (hb : Below wx.heap.size wx wy) : TgPre w wy o k a b c d m0 m1 m2 m3 p q :=
  ⟨cell_later hb h.o0, cell_later hb h.o1, cell_later hb h.n0, cell_later hb h.n1, cell_later hb h.n2, cell_later hb h.n3, cell_later hb h.a0, cell_later hb h.a1, cell_later hb h.b0, cell_later hb h.b1, Nat.lt_of_lt_of_le h.s0 hb.size, Nat.lt_of_lt_of_le h.s2 hb.size, Nat.lt_of_lt_of_le h.sp hb.size, Nat.lt_of_lt_of_le h.sq hb.size, h.bl.trans (hb.mono (Nat.le_of_lt h.s0))⟩
theorem TgPre.alloc {w wx : World} {o k a b c d m0 m1 m2 m3 : Int} {p q : Nat} (h : TgPre w wx o k a b c d m0 m1 m2 m3 p q) (ob : Obj) : TgPre w (wx.alloc ob) o k a b c d m0 m1 m2 m3 p q := h.later ((Below.refl _ _).alloc (Nat.le_refl _) ob)

/-- The variables behind Binary: q, the two ranges, the effect. -/
structure TgIn (w wx : World) (o k a b c d : Int) (p q n : Nat) (lo hi : Int) (s t u : Bool) : Prop where
  o0 : wx.cell? ⟨w.heap.size, 0, none⟩ = some (.int .i64 o)
  o1 : wx.cell? ⟨w.heap.size, 1, none⟩ = some (.int .i64 k)
  a0 : wx.cell? ⟨p, 0, none⟩ = some (.int .i64 a)
  a1 : wx.cell? ⟨p, 1, none⟩ = some (.int .i64 b)
  b0 : wx.cell? ⟨q, 0, none⟩ = some (.int .i64 c)
  b1 : wx.cell? ⟨q, 1, none⟩ = some (.int .i64 d)
  x0 : wx.cell? ⟨n, 0, none⟩ = some (.int .i64 lo)
  x1 : wx.cell? ⟨n, 1, none⟩ = some (.int .i64 hi)
  x2 : wx.cell? ⟨n, 2, none⟩ = some (.bool s)
  x3 : wx.cell? ⟨n, 3, none⟩ = some (.bool t)
  x4 : wx.cell? ⟨n, 4, none⟩ = some (.bool u)
  s0 : w.heap.size < wx.heap.size
  sp : p < wx.heap.size
  sq : q < wx.heap.size
  sn : n < wx.heap.size
  bl : Below w.heap.size w wx
theorem TgIn.later {w wx wy : World} {o k a b c d : Int} {p q n : Nat} {lo hi : Int} {s t u : Bool} (h : TgIn w wx o k a b c d p q n lo hi s t u) (hb : Below wx.heap.size wx wy) : TgIn w wy o k a b c d p q n lo hi s t u :=
  ⟨cell_later hb h.o0, cell_later hb h.o1, cell_later hb h.a0, cell_later hb h.a1, cell_later hb h.b0, cell_later hb h.b1, cell_later hb h.x0, cell_later hb h.x1, cell_later hb h.x2, cell_later hb h.x3, cell_later hb h.x4, Nat.lt_of_lt_of_le h.s0 hb.size, Nat.lt_of_lt_of_le h.sp hb.size, Nat.lt_of_lt_of_le h.sq hb.size, Nat.lt_of_lt_of_le h.sn hb.size, h.bl.trans (hb.mono (Nat.le_of_lt h.s0))⟩
theorem TgIn.alloc {w wx : World} {o k a b c d : Int} {p q n : Nat} {lo hi : Int} {s t u : Bool} (h : TgIn w wx o k a b c d p q n lo hi s t u) (ob : Obj) : TgIn w (wx.alloc ob) o k a b c d p q n lo hi s t u := h.later ((Below.refl _ _).alloc (Nat.le_refl _) ob)
/-- A store into a range elsewhere. -/
theorem TgIn.set {w wx : World} {o k a b c d : Int} {p q n : Nat} {lo hi : Int} {s t u : Bool} (h : TgIn w wx o k a b c d p q n lo hi s t u) (r : Nat) (h0 : w.heap.size < r) (hp : p < r) (hq : q < r) (hn : n < r) (x y : Value) : TgIn w ((wx.setCell ⟨r, 0, none⟩ x).setCell ⟨r, 1, none⟩ y) o k a b c d p q n lo hi s t u := by
  have g : ∀ (e : Nat) (i : Nat), e < r → ((wx.setCell ⟨r, 0, none⟩ x).setCell ⟨r, 1, none⟩ y).cell? ⟨e, i, none⟩ = wx.cell? ⟨e, i, none⟩ := fun e i he => by
    have hc : ¬ r = e := by omega
    rw [World.cell?_setCell_far _ _ _ _ (by simpa using hc), World.cell?_setCell_far _ _ _ _ (by simpa using hc)]
  obtain ⟨o0, o1, a0, a1, b0, b1, x0, x1, x2, x3, x4, s0, sp, sq, sn, bl⟩ := h
  exact ⟨by rw [g _ _ h0]; exact o0, by rw [g _ _ h0]; exact o1, by rw [g _ _ hp]; exact a0, by rw [g _ _ hp]; exact a1, by rw [g _ _ hq]; exact b0, by rw [g _ _ hq]; exact b1, by rw [g _ _ hn]; exact x0, by rw [g _ _ hn]; exact x1, by rw [g _ _ hn]; exact x2, by rw [g _ _ hn]; exact x3, by rw [g _ _ hn]; exact x4, by simpa [World.setCell] using s0, by simpa [World.setCell] using sp, by simpa [World.setCell] using sq, by simpa [World.setCell] using sn, (bl.setCell (by simp; omega) _).setCell (by simp; omega) _⟩

/-- What done makes of two values. -/
def DonePost (o k v x : Int) (w : World) (e : Ending) (w' : World) : Prop := (∃ (n : Int) (T U : Bool), e = .returned (.agg #[.int .i64 n, .bool T, .bool U]) ∧ T = trapV o x ∧ U = undefV o k v x ∧ (T = false → U = false → n = doneV o k v x)) ∧ Below w.heap.size w w'
theorem done_post (o k v x : Int) (w : World) (hf : fitsB o k = true) (hv : In64 v) : Calls Try.prog 28 #[.int .i64 o, .int .i64 k, .int .i64 v, .int .i64 x] w (DonePost o k v x w) := by
  obtain ⟨n, hD, hn⟩ := done_any o k v x w hf hv
  exact hD.mono fun e w' ⟨he, hb⟩ => ⟨⟨n, _, _, he, rfl, rfl, hn⟩, hb⟩

/-- The variables in the loops: those before, r, and what has been found. -/
structure TgLoop (w wx : World) (o k a b c d : Int) (p q n : Nat) (lo hi : Int) (s t u : Bool) (nr : Nat) (V W : Int) (S : Bool) (rl rh : Int) : Prop where
  ti : TgIn w wx o k a b c d p q n lo hi s t u
  r0 : wx.cell? ⟨nr, 0, none⟩ = some (.int .i64 rl)
  r1 : wx.cell? ⟨nr, 1, none⟩ = some (.int .i64 rh)
  f0 : wx.frozen? ⟨nr, 0, none⟩ = false
  f1 : wx.frozen? ⟨nr, 1, none⟩ = false
  sr : nr < wx.heap.size
  seen : Seen o k a b c d ⟨lo, hi, s, t, u⟩ V W S rl rh
theorem TgLoop.later {w wx wy : World} {o k a b c d : Int} {p q n : Nat} {lo hi : Int} {s t u : Bool} {nr : Nat} {V W : Int} {S : Bool} {rl rh : Int} (h : TgLoop w wx o k a b c d p q n lo hi s t u nr V W S rl rh) (hb : Below wx.heap.size wx wy) : TgLoop w wy o k a b c d p q n lo hi s t u nr V W S rl rh :=
  ⟨h.ti.later hb, cell_later hb h.r0, cell_later hb h.r1, keepFr7 hb h.sr h.f0, keepFr7 hb h.sr h.f1, Nat.lt_of_lt_of_le h.sr hb.size, h.seen⟩
theorem TgLoop.see {w wx : World} {o k a b c d : Int} {p q n : Nat} {lo hi : Int} {s t u : Bool} {nr : Nat} {V W V' W' : Int} {S : Bool} {rl rh : Int} (h : TgLoop w wx o k a b c d p q n lo hi s t u nr V W S rl rh) (hs : Seen o k a b c d ⟨lo, hi, s, t, u⟩ V' W' S rl rh) : TgLoop w wx o k a b c d p q n lo hi s t u nr V' W' S rl rh :=
  ⟨h.ti, h.r0, h.r1, h.f0, h.f1, h.sr, hs⟩
theorem TgLoop.set {w wx : World} {o k a b c d : Int} {p q n : Nat} {lo hi : Int} {s t u : Bool} {nr : Nat} {V W V' W' : Int} {S S' : Bool} {rl rh x y : Int} (h : TgLoop w wx o k a b c d p q n lo hi s t u nr V W S rl rh) (h0 : w.heap.size < nr) (hp : p < nr) (hq : q < nr) (hn : n < nr) (hs : Seen o k a b c d ⟨lo, hi, s, t, u⟩ V' W' S' x y) :
    TgLoop w ((wx.setCell ⟨nr, 0, none⟩ (.int .i64 x)).setCell ⟨nr, 1, none⟩ (.int .i64 y)) o k a b c d p q n lo hi s t u nr V' W' S' x y := by
  obtain ⟨ti, r0, r1, f0, f1, sr, seen⟩ := h
  exact ⟨ti.set nr h0 hp hq hn _ _, by go_simp, by go_simp, by go_simp, by go_simp, by simpa [World.setCell] using sr, hs⟩

set_option maxRecDepth 100000 in
set_option maxHeartbeats 2000000 in
theorem tight_no (hs : ShownOK') (o k a b c d m0 m1 m2 m3 : Int) (w : World) (hA : BinOut 21 o k a b c d 0 0 false false false 2) :
    Calls Try.prog 9 #[.agg #[.int .i64 o, .int .i64 k], .agg #[.int .i64 a, .int .i64 b, .int .i64 c, .int .i64 d], .agg #[.int .i64 m0, .int .i64 m1, .int .i64 m2, .int .i64 m3]] w fun e w' => e = .returned (.bool true) ∧ Below w.heap.size w w' := by
  go_enter Try.func9, Try.ntmps9
  go_wp2_with fail
  refine (hs _).mono ?_
  rintro e1 w1 ⟨rfl, hB1⟩
  have z0 : w.heap.size + 1 + 1 < w1.heap.size := by have := hB1.size; simp at this; omega
  have z1 : w.heap.size + 1 < w1.heap.size := by omega
  have z2 : w.heap.size < w1.heap.size := by omega
  have o0 : w1.cell? ⟨w.heap.size, 0, none⟩ = some (.int .i64 o) := cell_later hB1 (by go_simp)
  have o1 : w1.cell? ⟨w.heap.size, 1, none⟩ = some (.int .i64 k) := cell_later hB1 (by go_simp)
  have l0 : w1.cell? ⟨w.heap.size + 1, 0, none⟩ = some (.int .i64 a) := cell_later hB1 (by go_simp)
  have l1 : w1.cell? ⟨w.heap.size + 1, 1, none⟩ = some (.int .i64 b) := cell_later hB1 (by go_simp)
  have l2 : w1.cell? ⟨w.heap.size + 1, 2, none⟩ = some (.int .i64 c) := cell_later hB1 (by go_simp)
  have l3 : w1.cell? ⟨w.heap.size + 1, 3, none⟩ = some (.int .i64 d) := cell_later hB1 (by go_simp)
  have n0 : w1.cell? ⟨w.heap.size + 1 + 1, 0, none⟩ = some (.int .i64 m0) := cell_later hB1 (by go_simp)
  have n1 : w1.cell? ⟨w.heap.size + 1 + 1, 1, none⟩ = some (.int .i64 m1) := cell_later hB1 (by go_simp)
  have n2 : w1.cell? ⟨w.heap.size + 1 + 1, 2, none⟩ = some (.int .i64 m2) := cell_later hB1 (by go_simp)
  have n3 : w1.cell? ⟨w.heap.size + 1 + 1, 3, none⟩ = some (.int .i64 m3) := cell_later hB1 (by go_simp)
  have hT : Below w.heap.size w w1 := ((((Below.refl _ _).alloc (Nat.le_refl _) _).alloc (by simp) _).alloc (by simp; omega) _).trans (hB1.mono (by simp; omega))
  clear hB1
  go_upto_region 3 with fail
  go_cut [7, 8] (fun s7 s8 wx => ∃ p q : Nat, s7 = .pointer (some ⟨p, 0, none⟩) ∧ s8 = .pointer (some ⟨q, 0, none⟩) ∧ TgPre w wx o k a b c d m0 m1 m2 m3 p q)
  case first =>
    go_region
    · go_wp2
      go_meet
      exact ⟨w1.heap.size, w1.heap.size + 1, rfl, rfl, by go_simp, by go_simp, by go_simp, by go_simp, by go_simp, by go_simp, by go_simp, by go_simp, by go_simp, by go_simp, by (simp; try omega), by (simp; try omega), by (simp; try omega), by (simp; try omega), ((hT.alloc (by omega) _).alloc (by simp; omega) _).drew⟩
    · go_wp2
      go_meet
      exact ⟨w1.heap.size + 1, w1.heap.size, rfl, rfl, by go_simp, by go_simp, by go_simp, by go_simp, by go_simp, by go_simp, by go_simp, by go_simp, by go_simp, by go_simp, by (simp; try omega), by (simp; try omega), by (simp; try omega), by (simp; try omega), ((hT.alloc (by omega) _).alloc (by simp; omega) _).drew⟩
  case rest =>
    obtain ⟨p, q, rfl, rfl, I⟩ := hcut
    clear o0 o1 l0 l1 l2 l3 n0 n1 n2 n3 z0 z1 z2 hT
    have J := Lib.hid I
    obtain ⟨o0, o1, n0, n1, n2, n3, a0, a1, b0, b1, s0, s2, sp, sq, bl⟩ := I
    go_wp2_with fail
    refine (hA _).out.mono ?_
    clear o0 o1 n0 n1 n2 n3 a0 a1 b0 b1 s0 s2 sp sq bl
    rintro e2 w2 ⟨rfl, hB2⟩
    have J2 := Lib.hid (J.out.later hB2)
    clear hB2 J
    obtain ⟨o0, o1, n0, n1, n2, n3, a0, a1, b0, b1, s0, s2, sp, sq, bl⟩ := J2.out
    go_wp2
    go_ret
    exact ⟨rfl, bl.alloc (by omega) _⟩

end Go.Proofs.Ytgkhldbnljdeiaa

/- A part of a walk. -/
namespace Go.Proofs.Ytgkhldbnljdeiaa
open Go.RowKit RangesMath

set_option maxRecDepth 100000 in
set_option maxHeartbeats 8000000 in
noncomputable def tight_walkS1 : (P : Prop) ×' (R : Prop) ×' (PLift P → PLift R → ∀ (hs : ShownOK') (o k a b c d m0 m1 m2 m3 lo hi c0 c1 f d0 d1 g lo' hi' : Int) (s t u s' t' u' : Bool) (w : World)
    (hA : BinOut 21 o k a b c d lo hi s t u 0) (hJ1 : PairOK 15 a b m0 m1 c0 c1 f) (hJ2 : PairOK 15 c d m2 m3 d0 d1 g) (hK : Hid (CheckOK 13))
    (hF : Hid (f = 0 → g = 0 → checkErr k c0 c1 = 0 → checkErr k d0 d1 = 0 → BinOut 21 o k c0 c1 d0 d1 lo' hi' s' t' u' 0 ∧ More ⟨lo, hi, s, t, u⟩ ⟨lo', hi', s', t', u'⟩))
    (hf : Hid (fitsB o k = true)) (hab : Hid (a ≤ b)) (hcd : Hid (c ≤ d)) (hC : Hid (Contains o k a b c d ⟨lo, hi, s, t, u⟩))
    (hX : Hid (k ≠ 2 → Few a b c d → (o = 4 ∨ o = 5 ∨ o = 1 ∨ o = 2 ∨ o = 6 ∨ o = 7 ∨ 11 ≤ o) → (o = 6 → d ≤ 40) → Exact o k a b c d ⟨lo, hi, s, t, u⟩)),
    Calls Try.prog 9 #[.agg #[.int .i64 o, .int .i64 k], .agg #[.int .i64 a, .int .i64 b, .int .i64 c, .int .i64 d], .agg #[.int .i64 m0, .int .i64 m1, .int .i64 m2, .int .i64 m3]] w fun e w' => e = .returned (.bool true) ∧ Below w.heap.size w w') := ⟨_, _, by
  intro hP hR
  intro hs o k a b c d m0 m1 m2 m3 lo hi c0 c1 f d0 d1 g lo' hi' s t u s' t' u' w hA hJ1 hJ2 hK hF hf hab hcd hC hX
  go_enter Try.func9, Try.ntmps9
  go_wp2_with fail
  refine (hs _).mono ?_
  rintro e1 w1 ⟨rfl, hB1⟩
  have z0 : w.heap.size + 1 + 1 < w1.heap.size := by have := hB1.size; simp at this; omega
  have z1 : w.heap.size + 1 < w1.heap.size := by omega
  have z2 : w.heap.size < w1.heap.size := by omega
  have o0 : w1.cell? ⟨w.heap.size, 0, none⟩ = some (.int .i64 o) := cell_later hB1 (by go_simp)
  have o1 : w1.cell? ⟨w.heap.size, 1, none⟩ = some (.int .i64 k) := cell_later hB1 (by go_simp)
  have l0 : w1.cell? ⟨w.heap.size + 1, 0, none⟩ = some (.int .i64 a) := cell_later hB1 (by go_simp)
  have l1 : w1.cell? ⟨w.heap.size + 1, 1, none⟩ = some (.int .i64 b) := cell_later hB1 (by go_simp)
  have l2 : w1.cell? ⟨w.heap.size + 1, 2, none⟩ = some (.int .i64 c) := cell_later hB1 (by go_simp)
  have l3 : w1.cell? ⟨w.heap.size + 1, 3, none⟩ = some (.int .i64 d) := cell_later hB1 (by go_simp)
  have n0 : w1.cell? ⟨w.heap.size + 1 + 1, 0, none⟩ = some (.int .i64 m0) := cell_later hB1 (by go_simp)
  have n1 : w1.cell? ⟨w.heap.size + 1 + 1, 1, none⟩ = some (.int .i64 m1) := cell_later hB1 (by go_simp)
  have n2 : w1.cell? ⟨w.heap.size + 1 + 1, 2, none⟩ = some (.int .i64 m2) := cell_later hB1 (by go_simp)
  have n3 : w1.cell? ⟨w.heap.size + 1 + 1, 3, none⟩ = some (.int .i64 m3) := cell_later hB1 (by go_simp)
  have hT : Below w.heap.size w w1 := ((((Below.refl _ _).alloc (Nat.le_refl _) _).alloc (by simp) _).alloc (by simp; omega) _).trans (hB1.mono (by simp; omega))
  clear hB1
  go_upto_region 3 with fail
  go_cut [7, 8] (fun s7 s8 wx => ∃ p q : Nat, s7 = .pointer (some ⟨p, 0, none⟩) ∧ s8 = .pointer (some ⟨q, 0, none⟩) ∧ TgPre w wx o k a b c d m0 m1 m2 m3 p q)
  case first =>
    repeat (rename_i zz; first | (have tt : Value := zz; clear tt; clear zz) | (have tt : World := zz; clear tt; clear zz) | revert zz)
    try revert seen_end
    try revert he
    try revert seen_row
    try revert min_eq_right
    try revert q1'
    try revert max_eq_left
    try revert q2'
    try revert HS
    try revert max_eq_right
    try revert q2
    try revert min_eq_left
    try revert q1
    try revert seen_more
    try revert set
    try revert seen_first
    try revert sr
    try revert f1
    try revert r1
    try revert r0
    try revert Hn
    try revert HE
    try revert hn
    try revert hE
    try revert measure
    try revert seen
    try revert seen_skip
    try revert see
    try revert rel
    try revert Valid
    try revert hv
    try revert HN
    try revert HU
    try revert HT
    try revert L3
    try revert hN
    try revert hU
    try revert U
    try revert T
    try revert m
    try revert done_post
    try revert HD
    try revert hW
    try revert L2
    try revert ww
    try revert hV
    try revert ti
    try revert L1
    try revert hrel
    try revert v2
    try revert round
    try revert atStart
    try revert toNat
    try revert intOf
    try revert S
    try revert rh
    try revert rl
    try revert V
    try revert wr
    try revert vv
    try revert sv
    try revert bD1
    try revert bC1
    try revert bB1
    try revert bA1
    try revert hcd'
    try revert hab'
    try revert nr
    try revert W0
    try revert NN
    try revert NQ
    try revert NP
    try revert N0
    try revert seen_start
    try revert TgLoop
    try revert L0
    try revert FW
    try revert XX
    try revert exq
    try revert decide_eq_true_eq
    try revert and_eq_true
    try revert Few
    try revert few
    try revert h
    try revert on
    try revert kn
    try revert ex
    try revert fe
    try revert h6'
    try revert s220
    try revert HGO
    try revert hGO
    try revert GO
    try revert g6
    try revert g5
    try revert h6
    try revert g4
    try revert g3
    try revert s18
    try revert HEX
    try revert hEX
    try revert EX
    try revert decide_eq_true
    try revert h5'
    try revert h5
    try revert h4'
    try revert h4
    try revert h3'
    try revert h3
    try revert h0'
    try revert decide_eq_false
    try revert h0
    try revert wc
    try revert s17
    try revert HFE
    try revert wrap64
    try revert hFEW
    try revert FEW
    try revert T1
    try revert g2
    try revert g1
    try revert only
    try revert holds
    try revert M3
    try revert undef
    try revert M2
    try revert trap
    try revert M1
    try revert hB7
    try revert w7
    try revert e7
    try revert HM
    try revert HF
    try revert HM0
    try revert HF0
    try revert symm
    try revert k1
    try revert k0
    try revert g0
    try revert f0
    try revert s15
    try revert T9
    try revert z1'
    try revert z0'
    try revert v1'
    try revert v0'
    try revert I9
    try revert hf'
    try revert hg'
    try revert h1'
    try revert h2'
    try revert h2
    try revert T7
    try revert hB6
    try revert w6
    try revert e6
    try revert T6
    try revert hB5
    try revert w5
    try revert e5
    try revert h1
    try revert hg
    try revert hf0
    try revert s75
    try revert nd
    try revert W
    try revert kd
    try revert kc
    try revert HB
    try revert checkErr
    try revert hBB
    try revert BB
    try revert KD
    try revert KC
    try revert TH
    try revert v1
    try revert v0
    try revert Range
    try revert api
    try revert cells
    try revert T5
    try revert TgIn
    try revert T4
    try revert nc
    try revert J4
    try revert sc
    try revert y1
    try revert y0
    try revert keepA
    try revert hB4
    try revert w4
    try revert e4
    try revert n
    try revert J3
    try revert sn
    try revert x4
    try revert x3
    try revert bool
    try revert x2
    try revert x1
    try revert newA
    try revert x0
    try revert hB3
    try revert w3
    try revert e3
    try revert later
    try revert J2
    try revert hB2
    try revert w2
    try revert e2
    try revert out
    try revert bl
    try revert sq
    try revert sp
    try revert s2
    try revert s0
    try revert b1
    try revert b0
    try revert a1
    try revert a0
    try revert hid
    try revert Lib
    try revert J
    try revert hcut
    try revert I
    try revert drew
    try revert TgPre
    try revert pointer
    try revert q
    try revert p
    try revert wx
    try revert s8
    try revert s7
    try revert trans
    try revert le_refl
    try revert alloc
    try revert refl
    try revert Below
    try revert hT
    try revert n3
    try revert n2
    try revert n1
    try revert n0
    try revert l3
    try revert l2
    try revert l1
    try revert l0
    try revert o1
    try revert cell_later
    try revert i64
    try revert int
    try revert cell
    try revert o0
    try revert z2
    try revert z1
    try revert size
    try revert heap
    try revert z0
    try revert hB1
    try revert w1
    try revert e1
    try revert mono
    try revert _
    try revert fail
    try revert ntmps
    try revert RangesTight
    try revert law
    try revert func
    try revert A
    try revert hX
    try revert hC
    try revert hcd
    try revert hab
    try revert hf
    try revert hF
    try revert hK
    try revert hJ2
    try revert hJ1
    try revert hA
    try revert w
    try revert u'
    try revert t'
    try revert s'
    try revert u
    try revert t
    try revert s
    try revert hi'
    try revert lo'
    try revert g
    try revert d1
    try revert d0
    try revert f
    try revert c1
    try revert c0
    try revert hi
    try revert lo
    try revert m3
    try revert m2
    try revert m1
    try revert m0
    try revert d
    try revert c
    try revert b
    try revert a
    try revert k
    try revert o
    try revert hs
    first | clear u289 | revert u289 | skip
    first | clear u288 | revert u288 | skip
    first | clear u287 | revert u287 | skip
    first | clear u286 | revert u286 | skip
    first | clear u285 | revert u285 | skip
    first | clear u284 | revert u284 | skip
    first | clear u283 | revert u283 | skip
    first | clear u282 | revert u282 | skip
    first | clear u281 | revert u281 | skip
    first | clear u280 | revert u280 | skip
    first | clear u279 | revert u279 | skip
    first | clear u278 | revert u278 | skip
    first | clear u277 | revert u277 | skip
    first | clear u276 | revert u276 | skip
    first | clear u275 | revert u275 | skip
    first | clear u274 | revert u274 | skip
    first | clear u273 | revert u273 | skip
    first | clear u272 | revert u272 | skip
    first | clear u271 | revert u271 | skip
    first | clear u270 | revert u270 | skip
    first | clear u269 | revert u269 | skip
    first | clear u268 | revert u268 | skip
    first | clear u267 | revert u267 | skip
    first | clear u266 | revert u266 | skip
    first | clear u265 | revert u265 | skip
    first | clear u264 | revert u264 | skip
    first | clear u263 | revert u263 | skip
    first | clear u262 | revert u262 | skip
    first | clear u261 | revert u261 | skip
    first | clear u260 | revert u260 | skip
    first | clear u259 | revert u259 | skip
    first | clear u258 | revert u258 | skip
    first | clear u257 | revert u257 | skip
    first | clear u256 | revert u256 | skip
    first | clear u255 | revert u255 | skip
    first | clear u254 | revert u254 | skip
    first | clear u253 | revert u253 | skip
    first | clear u252 | revert u252 | skip
    first | clear u251 | revert u251 | skip
    first | clear u250 | revert u250 | skip
    first | clear u249 | revert u249 | skip
    first | clear u248 | revert u248 | skip
    first | clear u247 | revert u247 | skip
    first | clear u246 | revert u246 | skip
    first | clear u245 | revert u245 | skip
    first | clear u244 | revert u244 | skip
    first | clear u243 | revert u243 | skip
    first | clear u242 | revert u242 | skip
    first | clear u241 | revert u241 | skip
    first | clear u240 | revert u240 | skip
    first | clear u239 | revert u239 | skip
    first | clear u238 | revert u238 | skip
    first | clear u237 | revert u237 | skip
    first | clear u236 | revert u236 | skip
    first | clear u235 | revert u235 | skip
    first | clear u234 | revert u234 | skip
    first | clear u233 | revert u233 | skip
    first | clear u232 | revert u232 | skip
    first | clear u231 | revert u231 | skip
    first | clear u230 | revert u230 | skip
    first | clear u229 | revert u229 | skip
    first | clear u228 | revert u228 | skip
    first | clear u227 | revert u227 | skip
    first | clear u226 | revert u226 | skip
    first | clear u225 | revert u225 | skip
    first | clear u224 | revert u224 | skip
    first | clear u223 | revert u223 | skip
    first | clear u222 | revert u222 | skip
    first | clear u221 | revert u221 | skip
    first | clear u220 | revert u220 | skip
    first | clear u219 | revert u219 | skip
    first | clear u218 | revert u218 | skip
    first | clear u217 | revert u217 | skip
    first | clear u216 | revert u216 | skip
    first | clear u215 | revert u215 | skip
    first | clear u214 | revert u214 | skip
    first | clear u213 | revert u213 | skip
    first | clear u212 | revert u212 | skip
    first | clear u211 | revert u211 | skip
    first | clear u210 | revert u210 | skip
    first | clear u209 | revert u209 | skip
    first | clear u208 | revert u208 | skip
    first | clear u207 | revert u207 | skip
    first | clear u206 | revert u206 | skip
    first | clear u205 | revert u205 | skip
    first | clear u204 | revert u204 | skip
    first | clear u203 | revert u203 | skip
    first | clear u202 | revert u202 | skip
    first | clear u201 | revert u201 | skip
    first | clear u200 | revert u200 | skip
    first | clear u199 | revert u199 | skip
    first | clear u198 | revert u198 | skip
    first | clear u197 | revert u197 | skip
    first | clear u196 | revert u196 | skip
    first | clear u195 | revert u195 | skip
    first | clear u194 | revert u194 | skip
    first | clear u193 | revert u193 | skip
    first | clear u192 | revert u192 | skip
    first | clear u191 | revert u191 | skip
    first | clear u190 | revert u190 | skip
    first | clear u189 | revert u189 | skip
    first | clear u188 | revert u188 | skip
    first | clear u187 | revert u187 | skip
    first | clear u186 | revert u186 | skip
    first | clear u185 | revert u185 | skip
    first | clear u184 | revert u184 | skip
    first | clear u183 | revert u183 | skip
    first | clear u182 | revert u182 | skip
    first | clear u181 | revert u181 | skip
    first | clear u180 | revert u180 | skip
    first | clear u179 | revert u179 | skip
    first | clear u178 | revert u178 | skip
    first | clear u177 | revert u177 | skip
    first | clear u176 | revert u176 | skip
    first | clear u175 | revert u175 | skip
    first | clear u174 | revert u174 | skip
    first | clear u173 | revert u173 | skip
    first | clear u172 | revert u172 | skip
    first | clear u171 | revert u171 | skip
    first | clear u170 | revert u170 | skip
    first | clear u169 | revert u169 | skip
    first | clear u168 | revert u168 | skip
    first | clear u167 | revert u167 | skip
    first | clear u166 | revert u166 | skip
    first | clear u165 | revert u165 | skip
    first | clear u164 | revert u164 | skip
    first | clear u163 | revert u163 | skip
    first | clear u162 | revert u162 | skip
    first | clear u161 | revert u161 | skip
    first | clear u160 | revert u160 | skip
    first | clear u159 | revert u159 | skip
    first | clear u158 | revert u158 | skip
    first | clear u157 | revert u157 | skip
    first | clear u156 | revert u156 | skip
    first | clear u155 | revert u155 | skip
    first | clear u154 | revert u154 | skip
    first | clear u153 | revert u153 | skip
    first | clear u152 | revert u152 | skip
    first | clear u151 | revert u151 | skip
    first | clear u150 | revert u150 | skip
    first | clear u149 | revert u149 | skip
    first | clear u148 | revert u148 | skip
    first | clear u147 | revert u147 | skip
    first | clear u146 | revert u146 | skip
    first | clear u145 | revert u145 | skip
    first | clear u144 | revert u144 | skip
    first | clear u143 | revert u143 | skip
    first | clear u142 | revert u142 | skip
    first | clear u141 | revert u141 | skip
    first | clear u140 | revert u140 | skip
    first | clear u139 | revert u139 | skip
    first | clear u138 | revert u138 | skip
    first | clear u137 | revert u137 | skip
    first | clear u136 | revert u136 | skip
    first | clear u135 | revert u135 | skip
    first | clear u134 | revert u134 | skip
    first | clear u133 | revert u133 | skip
    first | clear u132 | revert u132 | skip
    first | clear u131 | revert u131 | skip
    first | clear u130 | revert u130 | skip
    first | clear u129 | revert u129 | skip
    first | clear u128 | revert u128 | skip
    first | clear u127 | revert u127 | skip
    first | clear u126 | revert u126 | skip
    first | clear u125 | revert u125 | skip
    first | clear u124 | revert u124 | skip
    first | clear u123 | revert u123 | skip
    first | clear u122 | revert u122 | skip
    first | clear u121 | revert u121 | skip
    first | clear u120 | revert u120 | skip
    first | clear u119 | revert u119 | skip
    first | clear u118 | revert u118 | skip
    first | clear u117 | revert u117 | skip
    first | clear u116 | revert u116 | skip
    first | clear u115 | revert u115 | skip
    first | clear u114 | revert u114 | skip
    first | clear u113 | revert u113 | skip
    first | clear u112 | revert u112 | skip
    first | clear u111 | revert u111 | skip
    first | clear u110 | revert u110 | skip
    first | clear u109 | revert u109 | skip
    first | clear u108 | revert u108 | skip
    first | clear u107 | revert u107 | skip
    first | clear u106 | revert u106 | skip
    first | clear u105 | revert u105 | skip
    first | clear u104 | revert u104 | skip
    first | clear u103 | revert u103 | skip
    first | clear u102 | revert u102 | skip
    first | clear u101 | revert u101 | skip
    first | clear u100 | revert u100 | skip
    first | clear u99 | revert u99 | skip
    first | clear u98 | revert u98 | skip
    first | clear u97 | revert u97 | skip
    first | clear u96 | revert u96 | skip
    first | clear u95 | revert u95 | skip
    first | clear u94 | revert u94 | skip
    first | clear u93 | revert u93 | skip
    first | clear u92 | revert u92 | skip
    first | clear u91 | revert u91 | skip
    first | clear u90 | revert u90 | skip
    first | clear u89 | revert u89 | skip
    first | clear u88 | revert u88 | skip
    first | clear u87 | revert u87 | skip
    first | clear u86 | revert u86 | skip
    first | clear u85 | revert u85 | skip
    first | clear u84 | revert u84 | skip
    first | clear u83 | revert u83 | skip
    first | clear u82 | revert u82 | skip
    first | clear u81 | revert u81 | skip
    first | clear u80 | revert u80 | skip
    first | clear u79 | revert u79 | skip
    first | clear u78 | revert u78 | skip
    first | clear u77 | revert u77 | skip
    first | clear u76 | revert u76 | skip
    first | clear u75 | revert u75 | skip
    first | clear u74 | revert u74 | skip
    first | clear u73 | revert u73 | skip
    first | clear u72 | revert u72 | skip
    first | clear u71 | revert u71 | skip
    first | clear u70 | revert u70 | skip
    first | clear u69 | revert u69 | skip
    first | clear u68 | revert u68 | skip
    first | clear u67 | revert u67 | skip
    first | clear u66 | revert u66 | skip
    first | clear u65 | revert u65 | skip
    first | clear u64 | revert u64 | skip
    first | clear u63 | revert u63 | skip
    first | clear u62 | revert u62 | skip
    first | clear u61 | revert u61 | skip
    first | clear u60 | revert u60 | skip
    first | clear u59 | revert u59 | skip
    first | clear u58 | revert u58 | skip
    first | clear u57 | revert u57 | skip
    first | clear u56 | revert u56 | skip
    first | clear u55 | revert u55 | skip
    first | clear u54 | revert u54 | skip
    first | clear u53 | revert u53 | skip
    first | clear u52 | revert u52 | skip
    first | clear u51 | revert u51 | skip
    first | clear u50 | revert u50 | skip
    first | clear u49 | revert u49 | skip
    first | clear u48 | revert u48 | skip
    first | clear u47 | revert u47 | skip
    first | clear u46 | revert u46 | skip
    first | clear u45 | revert u45 | skip
    first | clear u44 | revert u44 | skip
    first | clear u43 | revert u43 | skip
    first | clear u42 | revert u42 | skip
    first | clear u41 | revert u41 | skip
    first | clear u40 | revert u40 | skip
    first | clear u39 | revert u39 | skip
    first | clear u38 | revert u38 | skip
    first | clear u37 | revert u37 | skip
    first | clear u36 | revert u36 | skip
    first | clear u35 | revert u35 | skip
    first | clear u34 | revert u34 | skip
    first | clear u33 | revert u33 | skip
    first | clear u32 | revert u32 | skip
    first | clear u31 | revert u31 | skip
    first | clear u30 | revert u30 | skip
    first | clear u29 | revert u29 | skip
    first | clear u28 | revert u28 | skip
    first | clear u27 | revert u27 | skip
    first | clear u26 | revert u26 | skip
    first | clear u25 | revert u25 | skip
    first | clear u24 | revert u24 | skip
    first | clear u23 | revert u23 | skip
    first | clear u22 | revert u22 | skip
    first | clear u21 | revert u21 | skip
    first | clear u20 | revert u20 | skip
    first | clear u19 | revert u19 | skip
    first | clear u18 | revert u18 | skip
    first | clear u17 | revert u17 | skip
    first | clear u16 | revert u16 | skip
    first | clear u15 | revert u15 | skip
    first | clear u14 | revert u14 | skip
    first | clear u13 | revert u13 | skip
    first | clear u12 | revert u12 | skip
    first | clear u11 | revert u11 | skip
    first | clear u10 | revert u10 | skip
    first | clear u9 | revert u9 | skip
    first | clear u8 | revert u8 | skip
    first | clear u7 | revert u7 | skip
    first | clear u6 | revert u6 | skip
    first | clear u5 | revert u5 | skip
    first | clear u4 | revert u4 | skip
    first | clear u3 | revert u3 | skip
    first | clear u2 | revert u2 | skip
    first | clear u1 | revert u1 | skip
    first | clear u0 | revert u0 | skip
    exact hP.down
  case rest =>
    repeat (rename_i zz; first | (have tt : Value := zz; clear tt; clear zz) | (have tt : World := zz; clear tt; clear zz) | revert zz)
    try revert seen_end
    try revert he
    try revert seen_row
    try revert min_eq_right
    try revert q1'
    try revert max_eq_left
    try revert q2'
    try revert HS
    try revert max_eq_right
    try revert q2
    try revert min_eq_left
    try revert q1
    try revert seen_more
    try revert set
    try revert seen_first
    try revert sr
    try revert f1
    try revert r1
    try revert r0
    try revert Hn
    try revert HE
    try revert hn
    try revert hE
    try revert measure
    try revert seen
    try revert seen_skip
    try revert see
    try revert rel
    try revert Valid
    try revert hv
    try revert HN
    try revert HU
    try revert HT
    try revert L3
    try revert hN
    try revert hU
    try revert U
    try revert T
    try revert m
    try revert done_post
    try revert HD
    try revert hW
    try revert L2
    try revert ww
    try revert hV
    try revert ti
    try revert L1
    try revert hrel
    try revert v2
    try revert round
    try revert atStart
    try revert toNat
    try revert intOf
    try revert S
    try revert rh
    try revert rl
    try revert V
    try revert wr
    try revert vv
    try revert sv
    try revert bD1
    try revert bC1
    try revert bB1
    try revert bA1
    try revert hcd'
    try revert hab'
    try revert nr
    try revert W0
    try revert NN
    try revert NQ
    try revert NP
    try revert N0
    try revert seen_start
    try revert TgLoop
    try revert L0
    try revert FW
    try revert XX
    try revert exq
    try revert decide_eq_true_eq
    try revert and_eq_true
    try revert Few
    try revert few
    try revert h
    try revert on
    try revert kn
    try revert ex
    try revert fe
    try revert h6'
    try revert s220
    try revert HGO
    try revert hGO
    try revert GO
    try revert g6
    try revert g5
    try revert h6
    try revert g4
    try revert g3
    try revert s18
    try revert HEX
    try revert hEX
    try revert EX
    try revert decide_eq_true
    try revert h5'
    try revert h5
    try revert h4'
    try revert h4
    try revert h3'
    try revert h3
    try revert h0'
    try revert decide_eq_false
    try revert h0
    try revert wc
    try revert s17
    try revert HFE
    try revert wrap64
    try revert hFEW
    try revert FEW
    try revert T1
    try revert g2
    try revert g1
    try revert only
    try revert holds
    try revert M3
    try revert undef
    try revert M2
    try revert trap
    try revert M1
    try revert hB7
    try revert w7
    try revert e7
    try revert HM
    try revert HF
    try revert HM0
    try revert HF0
    try revert symm
    try revert k1
    try revert k0
    try revert g0
    try revert f0
    try revert s15
    try revert T9
    try revert z1'
    try revert z0'
    try revert v1'
    try revert v0'
    try revert I9
    try revert hf'
    try revert hg'
    try revert h1'
    try revert h2'
    try revert h2
    try revert T7
    try revert hB6
    try revert w6
    try revert e6
    try revert T6
    try revert hB5
    try revert w5
    try revert e5
    try revert h1
    try revert hg
    try revert hf0
    try revert s75
    try revert nd
    try revert W
    try revert kd
    try revert kc
    try revert HB
    try revert checkErr
    try revert hBB
    try revert BB
    try revert KD
    try revert KC
    try revert TH
    try revert v1
    try revert v0
    try revert Range
    try revert api
    try revert cells
    try revert T5
    try revert TgIn
    try revert T4
    try revert nc
    try revert J4
    try revert sc
    try revert y1
    try revert y0
    try revert keepA
    try revert hB4
    try revert w4
    try revert e4
    try revert n
    try revert J3
    try revert sn
    try revert x4
    try revert x3
    try revert bool
    try revert x2
    try revert x1
    try revert newA
    try revert x0
    try revert hB3
    try revert w3
    try revert e3
    try revert later
    try revert J2
    try revert hB2
    try revert w2
    try revert e2
    try revert out
    try revert bl
    try revert sq
    try revert sp
    try revert s2
    try revert s0
    try revert b1
    try revert b0
    try revert a1
    try revert a0
    try revert hid
    try revert Lib
    try revert J
    try revert hcut
    try revert I
    try revert drew
    try revert TgPre
    try revert pointer
    try revert q
    try revert p
    try revert wx
    try revert s8
    try revert s7
    try revert trans
    try revert le_refl
    try revert alloc
    try revert refl
    try revert Below
    try revert hT
    try revert n3
    try revert n2
    try revert n1
    try revert n0
    try revert l3
    try revert l2
    try revert l1
    try revert l0
    try revert o1
    try revert cell_later
    try revert i64
    try revert int
    try revert cell
    try revert o0
    try revert z2
    try revert z1
    try revert size
    try revert heap
    try revert z0
    try revert hB1
    try revert w1
    try revert e1
    try revert mono
    try revert _
    try revert fail
    try revert ntmps
    try revert RangesTight
    try revert law
    try revert func
    try revert A
    try revert hX
    try revert hC
    try revert hcd
    try revert hab
    try revert hf
    try revert hF
    try revert hK
    try revert hJ2
    try revert hJ1
    try revert hA
    try revert w
    try revert u'
    try revert t'
    try revert s'
    try revert u
    try revert t
    try revert s
    try revert hi'
    try revert lo'
    try revert g
    try revert d1
    try revert d0
    try revert f
    try revert c1
    try revert c0
    try revert hi
    try revert lo
    try revert m3
    try revert m2
    try revert m1
    try revert m0
    try revert d
    try revert c
    try revert b
    try revert a
    try revert k
    try revert o
    try revert hs
    first | clear u289 | revert u289 | skip
    first | clear u288 | revert u288 | skip
    first | clear u287 | revert u287 | skip
    first | clear u286 | revert u286 | skip
    first | clear u285 | revert u285 | skip
    first | clear u284 | revert u284 | skip
    first | clear u283 | revert u283 | skip
    first | clear u282 | revert u282 | skip
    first | clear u281 | revert u281 | skip
    first | clear u280 | revert u280 | skip
    first | clear u279 | revert u279 | skip
    first | clear u278 | revert u278 | skip
    first | clear u277 | revert u277 | skip
    first | clear u276 | revert u276 | skip
    first | clear u275 | revert u275 | skip
    first | clear u274 | revert u274 | skip
    first | clear u273 | revert u273 | skip
    first | clear u272 | revert u272 | skip
    first | clear u271 | revert u271 | skip
    first | clear u270 | revert u270 | skip
    first | clear u269 | revert u269 | skip
    first | clear u268 | revert u268 | skip
    first | clear u267 | revert u267 | skip
    first | clear u266 | revert u266 | skip
    first | clear u265 | revert u265 | skip
    first | clear u264 | revert u264 | skip
    first | clear u263 | revert u263 | skip
    first | clear u262 | revert u262 | skip
    first | clear u261 | revert u261 | skip
    first | clear u260 | revert u260 | skip
    first | clear u259 | revert u259 | skip
    first | clear u258 | revert u258 | skip
    first | clear u257 | revert u257 | skip
    first | clear u256 | revert u256 | skip
    first | clear u255 | revert u255 | skip
    first | clear u254 | revert u254 | skip
    first | clear u253 | revert u253 | skip
    first | clear u252 | revert u252 | skip
    first | clear u251 | revert u251 | skip
    first | clear u250 | revert u250 | skip
    first | clear u249 | revert u249 | skip
    first | clear u248 | revert u248 | skip
    first | clear u247 | revert u247 | skip
    first | clear u246 | revert u246 | skip
    first | clear u245 | revert u245 | skip
    first | clear u244 | revert u244 | skip
    first | clear u243 | revert u243 | skip
    first | clear u242 | revert u242 | skip
    first | clear u241 | revert u241 | skip
    first | clear u240 | revert u240 | skip
    first | clear u239 | revert u239 | skip
    first | clear u238 | revert u238 | skip
    first | clear u237 | revert u237 | skip
    first | clear u236 | revert u236 | skip
    first | clear u235 | revert u235 | skip
    first | clear u234 | revert u234 | skip
    first | clear u233 | revert u233 | skip
    first | clear u232 | revert u232 | skip
    first | clear u231 | revert u231 | skip
    first | clear u230 | revert u230 | skip
    first | clear u229 | revert u229 | skip
    first | clear u228 | revert u228 | skip
    first | clear u227 | revert u227 | skip
    first | clear u226 | revert u226 | skip
    first | clear u225 | revert u225 | skip
    first | clear u224 | revert u224 | skip
    first | clear u223 | revert u223 | skip
    first | clear u222 | revert u222 | skip
    first | clear u221 | revert u221 | skip
    first | clear u220 | revert u220 | skip
    first | clear u219 | revert u219 | skip
    first | clear u218 | revert u218 | skip
    first | clear u217 | revert u217 | skip
    first | clear u216 | revert u216 | skip
    first | clear u215 | revert u215 | skip
    first | clear u214 | revert u214 | skip
    first | clear u213 | revert u213 | skip
    first | clear u212 | revert u212 | skip
    first | clear u211 | revert u211 | skip
    first | clear u210 | revert u210 | skip
    first | clear u209 | revert u209 | skip
    first | clear u208 | revert u208 | skip
    first | clear u207 | revert u207 | skip
    first | clear u206 | revert u206 | skip
    first | clear u205 | revert u205 | skip
    first | clear u204 | revert u204 | skip
    first | clear u203 | revert u203 | skip
    first | clear u202 | revert u202 | skip
    first | clear u201 | revert u201 | skip
    first | clear u200 | revert u200 | skip
    first | clear u199 | revert u199 | skip
    first | clear u198 | revert u198 | skip
    first | clear u197 | revert u197 | skip
    first | clear u196 | revert u196 | skip
    first | clear u195 | revert u195 | skip
    first | clear u194 | revert u194 | skip
    first | clear u193 | revert u193 | skip
    first | clear u192 | revert u192 | skip
    first | clear u191 | revert u191 | skip
    first | clear u190 | revert u190 | skip
    first | clear u189 | revert u189 | skip
    first | clear u188 | revert u188 | skip
    first | clear u187 | revert u187 | skip
    first | clear u186 | revert u186 | skip
    first | clear u185 | revert u185 | skip
    first | clear u184 | revert u184 | skip
    first | clear u183 | revert u183 | skip
    first | clear u182 | revert u182 | skip
    first | clear u181 | revert u181 | skip
    first | clear u180 | revert u180 | skip
    first | clear u179 | revert u179 | skip
    first | clear u178 | revert u178 | skip
    first | clear u177 | revert u177 | skip
    first | clear u176 | revert u176 | skip
    first | clear u175 | revert u175 | skip
    first | clear u174 | revert u174 | skip
    first | clear u173 | revert u173 | skip
    first | clear u172 | revert u172 | skip
    first | clear u171 | revert u171 | skip
    first | clear u170 | revert u170 | skip
    first | clear u169 | revert u169 | skip
    first | clear u168 | revert u168 | skip
    first | clear u167 | revert u167 | skip
    first | clear u166 | revert u166 | skip
    first | clear u165 | revert u165 | skip
    first | clear u164 | revert u164 | skip
    first | clear u163 | revert u163 | skip
    first | clear u162 | revert u162 | skip
    first | clear u161 | revert u161 | skip
    first | clear u160 | revert u160 | skip
    first | clear u159 | revert u159 | skip
    first | clear u158 | revert u158 | skip
    first | clear u157 | revert u157 | skip
    first | clear u156 | revert u156 | skip
    first | clear u155 | revert u155 | skip
    first | clear u154 | revert u154 | skip
    first | clear u153 | revert u153 | skip
    first | clear u152 | revert u152 | skip
    first | clear u151 | revert u151 | skip
    first | clear u150 | revert u150 | skip
    first | clear u149 | revert u149 | skip
    first | clear u148 | revert u148 | skip
    first | clear u147 | revert u147 | skip
    first | clear u146 | revert u146 | skip
    first | clear u145 | revert u145 | skip
    first | clear u144 | revert u144 | skip
    first | clear u143 | revert u143 | skip
    first | clear u142 | revert u142 | skip
    first | clear u141 | revert u141 | skip
    first | clear u140 | revert u140 | skip
    first | clear u139 | revert u139 | skip
    first | clear u138 | revert u138 | skip
    first | clear u137 | revert u137 | skip
    first | clear u136 | revert u136 | skip
    first | clear u135 | revert u135 | skip
    first | clear u134 | revert u134 | skip
    first | clear u133 | revert u133 | skip
    first | clear u132 | revert u132 | skip
    first | clear u131 | revert u131 | skip
    first | clear u130 | revert u130 | skip
    first | clear u129 | revert u129 | skip
    first | clear u128 | revert u128 | skip
    first | clear u127 | revert u127 | skip
    first | clear u126 | revert u126 | skip
    first | clear u125 | revert u125 | skip
    first | clear u124 | revert u124 | skip
    first | clear u123 | revert u123 | skip
    first | clear u122 | revert u122 | skip
    first | clear u121 | revert u121 | skip
    first | clear u120 | revert u120 | skip
    first | clear u119 | revert u119 | skip
    first | clear u118 | revert u118 | skip
    first | clear u117 | revert u117 | skip
    first | clear u116 | revert u116 | skip
    first | clear u115 | revert u115 | skip
    first | clear u114 | revert u114 | skip
    first | clear u113 | revert u113 | skip
    first | clear u112 | revert u112 | skip
    first | clear u111 | revert u111 | skip
    first | clear u110 | revert u110 | skip
    first | clear u109 | revert u109 | skip
    first | clear u108 | revert u108 | skip
    first | clear u107 | revert u107 | skip
    first | clear u106 | revert u106 | skip
    first | clear u105 | revert u105 | skip
    first | clear u104 | revert u104 | skip
    first | clear u103 | revert u103 | skip
    first | clear u102 | revert u102 | skip
    first | clear u101 | revert u101 | skip
    first | clear u100 | revert u100 | skip
    first | clear u99 | revert u99 | skip
    first | clear u98 | revert u98 | skip
    first | clear u97 | revert u97 | skip
    first | clear u96 | revert u96 | skip
    first | clear u95 | revert u95 | skip
    first | clear u94 | revert u94 | skip
    first | clear u93 | revert u93 | skip
    first | clear u92 | revert u92 | skip
    first | clear u91 | revert u91 | skip
    first | clear u90 | revert u90 | skip
    first | clear u89 | revert u89 | skip
    first | clear u88 | revert u88 | skip
    first | clear u87 | revert u87 | skip
    first | clear u86 | revert u86 | skip
    first | clear u85 | revert u85 | skip
    first | clear u84 | revert u84 | skip
    first | clear u83 | revert u83 | skip
    first | clear u82 | revert u82 | skip
    first | clear u81 | revert u81 | skip
    first | clear u80 | revert u80 | skip
    first | clear u79 | revert u79 | skip
    first | clear u78 | revert u78 | skip
    first | clear u77 | revert u77 | skip
    first | clear u76 | revert u76 | skip
    first | clear u75 | revert u75 | skip
    first | clear u74 | revert u74 | skip
    first | clear u73 | revert u73 | skip
    first | clear u72 | revert u72 | skip
    first | clear u71 | revert u71 | skip
    first | clear u70 | revert u70 | skip
    first | clear u69 | revert u69 | skip
    first | clear u68 | revert u68 | skip
    first | clear u67 | revert u67 | skip
    first | clear u66 | revert u66 | skip
    first | clear u65 | revert u65 | skip
    first | clear u64 | revert u64 | skip
    first | clear u63 | revert u63 | skip
    first | clear u62 | revert u62 | skip
    first | clear u61 | revert u61 | skip
    first | clear u60 | revert u60 | skip
    first | clear u59 | revert u59 | skip
    first | clear u58 | revert u58 | skip
    first | clear u57 | revert u57 | skip
    first | clear u56 | revert u56 | skip
    first | clear u55 | revert u55 | skip
    first | clear u54 | revert u54 | skip
    first | clear u53 | revert u53 | skip
    first | clear u52 | revert u52 | skip
    first | clear u51 | revert u51 | skip
    first | clear u50 | revert u50 | skip
    first | clear u49 | revert u49 | skip
    first | clear u48 | revert u48 | skip
    first | clear u47 | revert u47 | skip
    first | clear u46 | revert u46 | skip
    first | clear u45 | revert u45 | skip
    first | clear u44 | revert u44 | skip
    first | clear u43 | revert u43 | skip
    first | clear u42 | revert u42 | skip
    first | clear u41 | revert u41 | skip
    first | clear u40 | revert u40 | skip
    first | clear u39 | revert u39 | skip
    first | clear u38 | revert u38 | skip
    first | clear u37 | revert u37 | skip
    first | clear u36 | revert u36 | skip
    first | clear u35 | revert u35 | skip
    first | clear u34 | revert u34 | skip
    first | clear u33 | revert u33 | skip
    first | clear u32 | revert u32 | skip
    first | clear u31 | revert u31 | skip
    first | clear u30 | revert u30 | skip
    first | clear u29 | revert u29 | skip
    first | clear u28 | revert u28 | skip
    first | clear u27 | revert u27 | skip
    first | clear u26 | revert u26 | skip
    first | clear u25 | revert u25 | skip
    first | clear u24 | revert u24 | skip
    first | clear u23 | revert u23 | skip
    first | clear u22 | revert u22 | skip
    first | clear u21 | revert u21 | skip
    first | clear u20 | revert u20 | skip
    first | clear u19 | revert u19 | skip
    first | clear u18 | revert u18 | skip
    first | clear u17 | revert u17 | skip
    first | clear u16 | revert u16 | skip
    first | clear u15 | revert u15 | skip
    first | clear u14 | revert u14 | skip
    first | clear u13 | revert u13 | skip
    first | clear u12 | revert u12 | skip
    first | clear u11 | revert u11 | skip
    first | clear u10 | revert u10 | skip
    first | clear u9 | revert u9 | skip
    first | clear u8 | revert u8 | skip
    first | clear u7 | revert u7 | skip
    first | clear u6 | revert u6 | skip
    first | clear u5 | revert u5 | skip
    first | clear u4 | revert u4 | skip
    first | clear u3 | revert u3 | skip
    first | clear u2 | revert u2 | skip
    first | clear u1 | revert u1 | skip
    first | clear u0 | revert u0 | skip
    exact hR.down
⟩

end Go.Proofs.Ytgkhldbnljdeiaa

/- A part of a walk. -/
namespace Go.Proofs.Ytgkhldbnljdeiaa
open Go.RowKit RangesMath

set_option maxRecDepth 100000 in
set_option maxHeartbeats 8000000 in
noncomputable def tight_walkS2 : (P : Prop) ×' (R : Prop) ×' (PLift P → PLift R → tight_walkS1.2.1) := ⟨_, _, by
  intro hP hR
  intro u7 u8 u24 u25 u26 u27 u28 u29 u30 u31 u32 u33 u34 u35 u36 u37 u38 u39 u40 u41 u42 u43 u44 u45 u46 u47 u48 u49 u50 u51 u52 u53 u54 u55 u56 u57 u58 u59 u60 u61 u62 u63 u64 u65 u66 u67 u68 u69 u70 u71 u72 u73 u74 u75 u76 u77 u78 u79 u80 u81 u82 u83 u84 u85 u86 u87 u88 u89 u90 u91 u92 u93 u94 u95 u96 u97 u98 u99 u100 u101 u102 u103 u104 u105 u106 u107 u108 u109 u110 u111 u112 u113 u114 u115 u116 u117 u118 u119 u120 u121 u122 u123 u124 u125 u126 u127 u128 u129 u130 u131 u132 u133 u134 u135 u136 u137 u138 u139 u140 u141 u142 u143 u144 u145 u146 u147 u148 u149 u150 u151 u152 u153 u154 u155 u156 u157 u158 u159 u160 u161 u162 u163 u164 u165 u166 u167 u168 u169 u170 u171 u172 u173 u174 u175 u176 u177 u178 u179 u180 u181 u182 u183 u184 u185 u186 u187 u188 u189 u190 u191 u192 u193 u194 u195 u196 u197 u198 u199 u200 u201 u202 u203 u204 u205 u206 u207 u208 u209 u210 u211 u212 u213 u214 u215 u216 u217 u218 u219 u220 u221 u222 u223 u224 u225 u226 u227 u228 u229 u230 u231 u232 u233 u234 u235 u236 u237 u238 u239 u240 u241 u242 u243 u244 u245 u246 u247 u248 u249 u250 u251 u252 u253 u254 u255 u256 u257 u258 u259 u260 u261 u262 u263 u264 u265 u266 u267 u268 u269 u270 u271 u272 u273 u274 u275 u276 u277 hs o k a b c d m0 m1 m2 m3 lo hi c0 c1 f d0 d1 g lo' hi' s t u s' t' u' w hA hJ1 hJ2 hK hF hf hab hcd hC hX w1 z0 z1 z2 o0 o1 l0 l1 l2 l3 n0 n1 n2 n3 hT wc hcut _ _ _
  obtain ⟨p, q, rfl, rfl, I⟩ := hcut
  clear o0 o1 l0 l1 l2 l3 n0 n1 n2 n3 z0 z1 z2 hT
  have J := Lib.hid I
  obtain ⟨o0, o1, n0, n1, n2, n3, a0, a1, b0, b1, s0, s2, sp, sq, bl⟩ := I
  go_wp2_with fail
  refine (hA _).out.mono ?_
  clear o0 o1 n0 n1 n2 n3 a0 a1 b0 b1 s0 s2 sp sq bl
  rintro e2 w2 ⟨rfl, hB2⟩
  have J2 := Lib.hid (J.out.later hB2)
  clear hB2 J
  obtain ⟨o0, o1, n0, n1, n2, n3, a0, a1, b0, b1, s0, s2, sp, sq, bl⟩ := J2.out
  go_wp2_with fail
  refine (hJ1 _).mono ?_
  clear o0 o1 n0 n1 n2 n3 a0 a1 b0 b1 s0 s2 sp sq bl
  rintro e3 w3 ⟨rfl, hB3⟩
  have x0 : w3.cell? ⟨w2.heap.size, 0, none⟩ = some (.int .i64 lo) := newA hB3 rfl
  have x1 : w3.cell? ⟨w2.heap.size, 1, none⟩ = some (.int .i64 hi) := newA hB3 rfl
  have x2 : w3.cell? ⟨w2.heap.size, 2, none⟩ = some (.bool s) := newA hB3 rfl
  have x3 : w3.cell? ⟨w2.heap.size, 3, none⟩ = some (.bool t) := newA hB3 rfl
  have x4 : w3.cell? ⟨w2.heap.size, 4, none⟩ = some (.bool u) := newA hB3 rfl
  have sn : w2.heap.size < w3.heap.size := by have := hB3.size; simp at this; omega
  have J3 := Lib.hid ((J2.out.alloc _).later hB3)
  clear hB3 J2
  generalize w2.heap.size = n at *
  obtain ⟨o0, o1, n0, n1, n2, n3, a0, a1, b0, b1, s0, s2, sp, sq, bl⟩ := J3.out
  go_wp2_with fail
  refine (hJ2 _).mono ?_
  clear o0 o1 n0 n1 n2 n3 a0 a1 b0 b1 s0 s2 sp sq bl
  rintro e4 w4 ⟨rfl, hB4⟩
  replace x0 := keepA hB4 x0
  replace x1 := keepA hB4 x1
  replace x2 := keepA hB4 x2
  replace x3 := keepA hB4 x3
  replace x4 := keepA hB4 x4
  have y0 : w4.cell? ⟨w3.heap.size, 0, none⟩ = some (.int .i64 c0) := newA hB4 rfl
  have y1 : w4.cell? ⟨w3.heap.size, 1, none⟩ = some (.int .i64 c1) := newA hB4 rfl
  replace sn : n < w4.heap.size := by have := hB4.size; simp at this; omega
  have sc : w3.heap.size < w4.heap.size := by have := hB4.size; simp at this; omega
  have J4 := Lib.hid ((J3.out.alloc _).later hB4)
  clear hB4 J3
  generalize w3.heap.size = nc at *
  obtain ⟨o0, o1, n0, n1, n2, n3, a0, a1, b0, b1, s0, s2, sp, sq, bl⟩ := J4.out
  have T4 : TgIn w w4 o k a b c d p q n lo hi s t u := ⟨o0, o1, a0, a1, b0, b1, x0, x1, x2, x3, x4, s0, sp, sq, sn, bl⟩
  have T5 : TgIn w (w4.alloc (.cells #[.int .i64 d0, .int .i64 d1] 23)) o k a b c d p q n lo hi s t u := T4.alloc _
  have v0 : (w4.alloc (.cells #[.int .i64 d0, .int .i64 d1] 23)).cell? ⟨nc, 0, none⟩ = some (.int .i64 c0) := by go_simp
  have v1 : (w4.alloc (.cells #[.int .i64 d0, .int .i64 d1] 23)).cell? ⟨nc, 1, none⟩ = some (.int .i64 c1) := by go_simp
  have z0 : (w4.alloc (.cells #[.int .i64 d0, .int .i64 d1] 23)).cell? ⟨w4.heap.size, 0, none⟩ = some (.int .i64 d0) := by go_simp
  have z1 : (w4.alloc (.cells #[.int .i64 d0, .int .i64 d1] 23)).cell? ⟨w4.heap.size, 1, none⟩ = some (.int .i64 d1) := by go_simp
  clear T4 J4 o0 o1 a0 a1 b0 b1 s0 s2 sp sq n0 n1 n2 n3 bl x0 x1 x2 x3 x4 y0 y1 sn sc
  have TH := Lib.hid T5
  clear T5
  have KC := fun w => Lib.hid (hK.out k c0 c1 w)
  have KD := fun w => Lib.hid (hK.out k d0 d1 w)
  obtain ⟨BB, hBB⟩ : ∃ BB : Bool, BB = decide (f = 0 ∧ g = 0 ∧ checkErr k c0 c1 = 0 ∧ checkErr k d0 d1 = 0) := ⟨_, rfl⟩
  have HB := Lib.hid hBB
  clear hBB
  generalize checkErr k c0 c1 = kc at *
  generalize checkErr k d0 d1 = kd at *
  go_upto_region 9 with fail
  generalize w4.alloc (.cells #[.int .i64 d0, .int .i64 d1] 23) = W at *
  generalize w4.heap.size = nd at *
  go_cut [75] (fun s75 wx => s75 = .bool BB ∧ TgIn w wx o k a b c d p q n lo hi s t u ∧ wx.cell? ⟨nc, 0, none⟩ = some (.int .i64 c0) ∧ wx.cell? ⟨nc, 1, none⟩ = some (.int .i64 c1) ∧ wx.cell? ⟨nd, 0, none⟩ = some (.int .i64 d0) ∧ wx.cell? ⟨nd, 1, none⟩ = some (.int .i64 d1))
  case first =>
    repeat (rename_i zz; first | (have tt : Value := zz; clear tt; clear zz) | (have tt : World := zz; clear tt; clear zz) | revert zz)
    try revert seen_end
    try revert he
    try revert seen_row
    try revert min_eq_right
    try revert q1'
    try revert max_eq_left
    try revert q2'
    try revert HS
    try revert max_eq_right
    try revert q2
    try revert min_eq_left
    try revert q1
    try revert seen_more
    try revert set
    try revert seen_first
    try revert sr
    try revert f1
    try revert r1
    try revert r0
    try revert Hn
    try revert HE
    try revert hn
    try revert hE
    try revert measure
    try revert seen
    try revert seen_skip
    try revert see
    try revert rel
    try revert Valid
    try revert hv
    try revert HN
    try revert HU
    try revert HT
    try revert L3
    try revert hN
    try revert hU
    try revert U
    try revert T
    try revert m
    try revert done_post
    try revert HD
    try revert hW
    try revert L2
    try revert ww
    try revert hV
    try revert ti
    try revert L1
    try revert hrel
    try revert v2
    try revert round
    try revert atStart
    try revert toNat
    try revert intOf
    try revert S
    try revert rh
    try revert rl
    try revert V
    try revert wr
    try revert vv
    try revert sv
    try revert bD1
    try revert bC1
    try revert bB1
    try revert bA1
    try revert hcd'
    try revert hab'
    try revert nr
    try revert W0
    try revert NN
    try revert NQ
    try revert NP
    try revert N0
    try revert seen_start
    try revert TgLoop
    try revert L0
    try revert FW
    try revert XX
    try revert exq
    try revert decide_eq_true_eq
    try revert and_eq_true
    try revert Few
    try revert few
    try revert h
    try revert on
    try revert kn
    try revert ex
    try revert fe
    try revert h6'
    try revert s220
    try revert HGO
    try revert hGO
    try revert GO
    try revert g6
    try revert g5
    try revert h6
    try revert g4
    try revert g3
    try revert s18
    try revert HEX
    try revert hEX
    try revert EX
    try revert decide_eq_true
    try revert h5'
    try revert h5
    try revert h4'
    try revert h4
    try revert h3'
    try revert h3
    try revert h0'
    try revert decide_eq_false
    try revert h0
    try revert wc
    try revert s17
    try revert HFE
    try revert wrap64
    try revert hFEW
    try revert FEW
    try revert T1
    try revert g2
    try revert g1
    try revert only
    try revert holds
    try revert M3
    try revert undef
    try revert M2
    try revert trap
    try revert M1
    try revert hB7
    try revert w7
    try revert e7
    try revert HM
    try revert HF
    try revert HM0
    try revert HF0
    try revert symm
    try revert k1
    try revert k0
    try revert g0
    try revert f0
    try revert s15
    try revert T9
    try revert z1'
    try revert z0'
    try revert v1'
    try revert v0'
    try revert I9
    try revert hf'
    try revert hg'
    try revert h1'
    try revert h2'
    try revert h2
    try revert T7
    try revert hB6
    try revert w6
    try revert e6
    try revert T6
    try revert hB5
    try revert w5
    try revert e5
    try revert h1
    try revert hg
    try revert hf0
    try revert s75
    try revert nd
    try revert W
    try revert kd
    try revert kc
    try revert HB
    try revert checkErr
    try revert hBB
    try revert BB
    try revert KD
    try revert KC
    try revert TH
    try revert v1
    try revert v0
    try revert Range
    try revert api
    try revert cells
    try revert T5
    try revert TgIn
    try revert T4
    try revert nc
    try revert J4
    try revert sc
    try revert y1
    try revert y0
    try revert keepA
    try revert hB4
    try revert w4
    try revert e4
    try revert n
    try revert J3
    try revert sn
    try revert x4
    try revert x3
    try revert bool
    try revert x2
    try revert x1
    try revert newA
    try revert x0
    try revert hB3
    try revert w3
    try revert e3
    try revert later
    try revert J2
    try revert hB2
    try revert w2
    try revert e2
    try revert out
    try revert bl
    try revert sq
    try revert sp
    try revert s2
    try revert s0
    try revert b1
    try revert b0
    try revert a1
    try revert a0
    try revert hid
    try revert Lib
    try revert J
    try revert hcut
    try revert I
    try revert drew
    try revert TgPre
    try revert pointer
    try revert q
    try revert p
    try revert wx
    try revert s8
    try revert s7
    try revert trans
    try revert le_refl
    try revert alloc
    try revert refl
    try revert Below
    try revert hT
    try revert n3
    try revert n2
    try revert n1
    try revert n0
    try revert l3
    try revert l2
    try revert l1
    try revert l0
    try revert o1
    try revert cell_later
    try revert i64
    try revert int
    try revert cell
    try revert o0
    try revert z2
    try revert z1
    try revert size
    try revert heap
    try revert z0
    try revert hB1
    try revert w1
    try revert e1
    try revert mono
    try revert _
    try revert fail
    try revert ntmps
    try revert RangesTight
    try revert law
    try revert func
    try revert A
    try revert hX
    try revert hC
    try revert hcd
    try revert hab
    try revert hf
    try revert hF
    try revert hK
    try revert hJ2
    try revert hJ1
    try revert hA
    try revert w
    try revert u'
    try revert t'
    try revert s'
    try revert u
    try revert t
    try revert s
    try revert hi'
    try revert lo'
    try revert g
    try revert d1
    try revert d0
    try revert f
    try revert c1
    try revert c0
    try revert hi
    try revert lo
    try revert m3
    try revert m2
    try revert m1
    try revert m0
    try revert d
    try revert c
    try revert b
    try revert a
    try revert k
    try revert o
    try revert hs
    first | clear u289 | revert u289 | skip
    first | clear u288 | revert u288 | skip
    first | clear u287 | revert u287 | skip
    first | clear u286 | revert u286 | skip
    first | clear u285 | revert u285 | skip
    first | clear u284 | revert u284 | skip
    first | clear u283 | revert u283 | skip
    first | clear u282 | revert u282 | skip
    first | clear u281 | revert u281 | skip
    first | clear u280 | revert u280 | skip
    first | clear u279 | revert u279 | skip
    first | clear u278 | revert u278 | skip
    first | clear u277 | revert u277 | skip
    first | clear u276 | revert u276 | skip
    first | clear u275 | revert u275 | skip
    first | clear u274 | revert u274 | skip
    first | clear u273 | revert u273 | skip
    first | clear u272 | revert u272 | skip
    first | clear u271 | revert u271 | skip
    first | clear u270 | revert u270 | skip
    first | clear u269 | revert u269 | skip
    first | clear u268 | revert u268 | skip
    first | clear u267 | revert u267 | skip
    first | clear u266 | revert u266 | skip
    first | clear u265 | revert u265 | skip
    first | clear u264 | revert u264 | skip
    first | clear u263 | revert u263 | skip
    first | clear u262 | revert u262 | skip
    first | clear u261 | revert u261 | skip
    first | clear u260 | revert u260 | skip
    first | clear u259 | revert u259 | skip
    first | clear u258 | revert u258 | skip
    first | clear u257 | revert u257 | skip
    first | clear u256 | revert u256 | skip
    first | clear u255 | revert u255 | skip
    first | clear u254 | revert u254 | skip
    first | clear u253 | revert u253 | skip
    first | clear u252 | revert u252 | skip
    first | clear u251 | revert u251 | skip
    first | clear u250 | revert u250 | skip
    first | clear u249 | revert u249 | skip
    first | clear u248 | revert u248 | skip
    first | clear u247 | revert u247 | skip
    first | clear u246 | revert u246 | skip
    first | clear u245 | revert u245 | skip
    first | clear u244 | revert u244 | skip
    first | clear u243 | revert u243 | skip
    first | clear u242 | revert u242 | skip
    first | clear u241 | revert u241 | skip
    first | clear u240 | revert u240 | skip
    first | clear u239 | revert u239 | skip
    first | clear u238 | revert u238 | skip
    first | clear u237 | revert u237 | skip
    first | clear u236 | revert u236 | skip
    first | clear u235 | revert u235 | skip
    first | clear u234 | revert u234 | skip
    first | clear u233 | revert u233 | skip
    first | clear u232 | revert u232 | skip
    first | clear u231 | revert u231 | skip
    first | clear u230 | revert u230 | skip
    first | clear u229 | revert u229 | skip
    first | clear u228 | revert u228 | skip
    first | clear u227 | revert u227 | skip
    first | clear u226 | revert u226 | skip
    first | clear u225 | revert u225 | skip
    first | clear u224 | revert u224 | skip
    first | clear u223 | revert u223 | skip
    first | clear u222 | revert u222 | skip
    first | clear u221 | revert u221 | skip
    first | clear u220 | revert u220 | skip
    first | clear u219 | revert u219 | skip
    first | clear u218 | revert u218 | skip
    first | clear u217 | revert u217 | skip
    first | clear u216 | revert u216 | skip
    first | clear u215 | revert u215 | skip
    first | clear u214 | revert u214 | skip
    first | clear u213 | revert u213 | skip
    first | clear u212 | revert u212 | skip
    first | clear u211 | revert u211 | skip
    first | clear u210 | revert u210 | skip
    first | clear u209 | revert u209 | skip
    first | clear u208 | revert u208 | skip
    first | clear u207 | revert u207 | skip
    first | clear u206 | revert u206 | skip
    first | clear u205 | revert u205 | skip
    first | clear u204 | revert u204 | skip
    first | clear u203 | revert u203 | skip
    first | clear u202 | revert u202 | skip
    first | clear u201 | revert u201 | skip
    first | clear u200 | revert u200 | skip
    first | clear u199 | revert u199 | skip
    first | clear u198 | revert u198 | skip
    first | clear u197 | revert u197 | skip
    first | clear u196 | revert u196 | skip
    first | clear u195 | revert u195 | skip
    first | clear u194 | revert u194 | skip
    first | clear u193 | revert u193 | skip
    first | clear u192 | revert u192 | skip
    first | clear u191 | revert u191 | skip
    first | clear u190 | revert u190 | skip
    first | clear u189 | revert u189 | skip
    first | clear u188 | revert u188 | skip
    first | clear u187 | revert u187 | skip
    first | clear u186 | revert u186 | skip
    first | clear u185 | revert u185 | skip
    first | clear u184 | revert u184 | skip
    first | clear u183 | revert u183 | skip
    first | clear u182 | revert u182 | skip
    first | clear u181 | revert u181 | skip
    first | clear u180 | revert u180 | skip
    first | clear u179 | revert u179 | skip
    first | clear u178 | revert u178 | skip
    first | clear u177 | revert u177 | skip
    first | clear u176 | revert u176 | skip
    first | clear u175 | revert u175 | skip
    first | clear u174 | revert u174 | skip
    first | clear u173 | revert u173 | skip
    first | clear u172 | revert u172 | skip
    first | clear u171 | revert u171 | skip
    first | clear u170 | revert u170 | skip
    first | clear u169 | revert u169 | skip
    first | clear u168 | revert u168 | skip
    first | clear u167 | revert u167 | skip
    first | clear u166 | revert u166 | skip
    first | clear u165 | revert u165 | skip
    first | clear u164 | revert u164 | skip
    first | clear u163 | revert u163 | skip
    first | clear u162 | revert u162 | skip
    first | clear u161 | revert u161 | skip
    first | clear u160 | revert u160 | skip
    first | clear u159 | revert u159 | skip
    first | clear u158 | revert u158 | skip
    first | clear u157 | revert u157 | skip
    first | clear u156 | revert u156 | skip
    first | clear u155 | revert u155 | skip
    first | clear u154 | revert u154 | skip
    first | clear u153 | revert u153 | skip
    first | clear u152 | revert u152 | skip
    first | clear u151 | revert u151 | skip
    first | clear u150 | revert u150 | skip
    first | clear u149 | revert u149 | skip
    first | clear u148 | revert u148 | skip
    first | clear u147 | revert u147 | skip
    first | clear u146 | revert u146 | skip
    first | clear u145 | revert u145 | skip
    first | clear u144 | revert u144 | skip
    first | clear u143 | revert u143 | skip
    first | clear u142 | revert u142 | skip
    first | clear u141 | revert u141 | skip
    first | clear u140 | revert u140 | skip
    first | clear u139 | revert u139 | skip
    first | clear u138 | revert u138 | skip
    first | clear u137 | revert u137 | skip
    first | clear u136 | revert u136 | skip
    first | clear u135 | revert u135 | skip
    first | clear u134 | revert u134 | skip
    first | clear u133 | revert u133 | skip
    first | clear u132 | revert u132 | skip
    first | clear u131 | revert u131 | skip
    first | clear u130 | revert u130 | skip
    first | clear u129 | revert u129 | skip
    first | clear u128 | revert u128 | skip
    first | clear u127 | revert u127 | skip
    first | clear u126 | revert u126 | skip
    first | clear u125 | revert u125 | skip
    first | clear u124 | revert u124 | skip
    first | clear u123 | revert u123 | skip
    first | clear u122 | revert u122 | skip
    first | clear u121 | revert u121 | skip
    first | clear u120 | revert u120 | skip
    first | clear u119 | revert u119 | skip
    first | clear u118 | revert u118 | skip
    first | clear u117 | revert u117 | skip
    first | clear u116 | revert u116 | skip
    first | clear u115 | revert u115 | skip
    first | clear u114 | revert u114 | skip
    first | clear u113 | revert u113 | skip
    first | clear u112 | revert u112 | skip
    first | clear u111 | revert u111 | skip
    first | clear u110 | revert u110 | skip
    first | clear u109 | revert u109 | skip
    first | clear u108 | revert u108 | skip
    first | clear u107 | revert u107 | skip
    first | clear u106 | revert u106 | skip
    first | clear u105 | revert u105 | skip
    first | clear u104 | revert u104 | skip
    first | clear u103 | revert u103 | skip
    first | clear u102 | revert u102 | skip
    first | clear u101 | revert u101 | skip
    first | clear u100 | revert u100 | skip
    first | clear u99 | revert u99 | skip
    first | clear u98 | revert u98 | skip
    first | clear u97 | revert u97 | skip
    first | clear u96 | revert u96 | skip
    first | clear u95 | revert u95 | skip
    first | clear u94 | revert u94 | skip
    first | clear u93 | revert u93 | skip
    first | clear u92 | revert u92 | skip
    first | clear u91 | revert u91 | skip
    first | clear u90 | revert u90 | skip
    first | clear u89 | revert u89 | skip
    first | clear u88 | revert u88 | skip
    first | clear u87 | revert u87 | skip
    first | clear u86 | revert u86 | skip
    first | clear u85 | revert u85 | skip
    first | clear u84 | revert u84 | skip
    first | clear u83 | revert u83 | skip
    first | clear u82 | revert u82 | skip
    first | clear u81 | revert u81 | skip
    first | clear u80 | revert u80 | skip
    first | clear u79 | revert u79 | skip
    first | clear u78 | revert u78 | skip
    first | clear u77 | revert u77 | skip
    first | clear u76 | revert u76 | skip
    first | clear u75 | revert u75 | skip
    first | clear u74 | revert u74 | skip
    first | clear u73 | revert u73 | skip
    first | clear u72 | revert u72 | skip
    first | clear u71 | revert u71 | skip
    first | clear u70 | revert u70 | skip
    first | clear u69 | revert u69 | skip
    first | clear u68 | revert u68 | skip
    first | clear u67 | revert u67 | skip
    first | clear u66 | revert u66 | skip
    first | clear u65 | revert u65 | skip
    first | clear u64 | revert u64 | skip
    first | clear u63 | revert u63 | skip
    first | clear u62 | revert u62 | skip
    first | clear u61 | revert u61 | skip
    first | clear u60 | revert u60 | skip
    first | clear u59 | revert u59 | skip
    first | clear u58 | revert u58 | skip
    first | clear u57 | revert u57 | skip
    first | clear u56 | revert u56 | skip
    first | clear u55 | revert u55 | skip
    first | clear u54 | revert u54 | skip
    first | clear u53 | revert u53 | skip
    first | clear u52 | revert u52 | skip
    first | clear u51 | revert u51 | skip
    first | clear u50 | revert u50 | skip
    first | clear u49 | revert u49 | skip
    first | clear u48 | revert u48 | skip
    first | clear u47 | revert u47 | skip
    first | clear u46 | revert u46 | skip
    first | clear u45 | revert u45 | skip
    first | clear u44 | revert u44 | skip
    first | clear u43 | revert u43 | skip
    first | clear u42 | revert u42 | skip
    first | clear u41 | revert u41 | skip
    first | clear u40 | revert u40 | skip
    first | clear u39 | revert u39 | skip
    first | clear u38 | revert u38 | skip
    first | clear u37 | revert u37 | skip
    first | clear u36 | revert u36 | skip
    first | clear u35 | revert u35 | skip
    first | clear u34 | revert u34 | skip
    first | clear u33 | revert u33 | skip
    first | clear u32 | revert u32 | skip
    first | clear u31 | revert u31 | skip
    first | clear u30 | revert u30 | skip
    first | clear u29 | revert u29 | skip
    first | clear u28 | revert u28 | skip
    first | clear u27 | revert u27 | skip
    first | clear u26 | revert u26 | skip
    first | clear u25 | revert u25 | skip
    first | clear u24 | revert u24 | skip
    first | clear u23 | revert u23 | skip
    first | clear u22 | revert u22 | skip
    first | clear u21 | revert u21 | skip
    first | clear u20 | revert u20 | skip
    first | clear u19 | revert u19 | skip
    first | clear u18 | revert u18 | skip
    first | clear u17 | revert u17 | skip
    first | clear u16 | revert u16 | skip
    first | clear u15 | revert u15 | skip
    first | clear u14 | revert u14 | skip
    first | clear u13 | revert u13 | skip
    first | clear u12 | revert u12 | skip
    first | clear u11 | revert u11 | skip
    first | clear u10 | revert u10 | skip
    first | clear u9 | revert u9 | skip
    first | clear u8 | revert u8 | skip
    first | clear u7 | revert u7 | skip
    first | clear u6 | revert u6 | skip
    first | clear u5 | revert u5 | skip
    first | clear u4 | revert u4 | skip
    first | clear u3 | revert u3 | skip
    first | clear u2 | revert u2 | skip
    first | clear u1 | revert u1 | skip
    first | clear u0 | revert u0 | skip
    exact hP.down
  case rest =>
    repeat (rename_i zz; first | (have tt : Value := zz; clear tt; clear zz) | (have tt : World := zz; clear tt; clear zz) | revert zz)
    try revert seen_end
    try revert he
    try revert seen_row
    try revert min_eq_right
    try revert q1'
    try revert max_eq_left
    try revert q2'
    try revert HS
    try revert max_eq_right
    try revert q2
    try revert min_eq_left
    try revert q1
    try revert seen_more
    try revert set
    try revert seen_first
    try revert sr
    try revert f1
    try revert r1
    try revert r0
    try revert Hn
    try revert HE
    try revert hn
    try revert hE
    try revert measure
    try revert seen
    try revert seen_skip
    try revert see
    try revert rel
    try revert Valid
    try revert hv
    try revert HN
    try revert HU
    try revert HT
    try revert L3
    try revert hN
    try revert hU
    try revert U
    try revert T
    try revert m
    try revert done_post
    try revert HD
    try revert hW
    try revert L2
    try revert ww
    try revert hV
    try revert ti
    try revert L1
    try revert hrel
    try revert v2
    try revert round
    try revert atStart
    try revert toNat
    try revert intOf
    try revert S
    try revert rh
    try revert rl
    try revert V
    try revert wr
    try revert vv
    try revert sv
    try revert bD1
    try revert bC1
    try revert bB1
    try revert bA1
    try revert hcd'
    try revert hab'
    try revert nr
    try revert W0
    try revert NN
    try revert NQ
    try revert NP
    try revert N0
    try revert seen_start
    try revert TgLoop
    try revert L0
    try revert FW
    try revert XX
    try revert exq
    try revert decide_eq_true_eq
    try revert and_eq_true
    try revert Few
    try revert few
    try revert h
    try revert on
    try revert kn
    try revert ex
    try revert fe
    try revert h6'
    try revert s220
    try revert HGO
    try revert hGO
    try revert GO
    try revert g6
    try revert g5
    try revert h6
    try revert g4
    try revert g3
    try revert s18
    try revert HEX
    try revert hEX
    try revert EX
    try revert decide_eq_true
    try revert h5'
    try revert h5
    try revert h4'
    try revert h4
    try revert h3'
    try revert h3
    try revert h0'
    try revert decide_eq_false
    try revert h0
    try revert wc
    try revert s17
    try revert HFE
    try revert wrap64
    try revert hFEW
    try revert FEW
    try revert T1
    try revert g2
    try revert g1
    try revert only
    try revert holds
    try revert M3
    try revert undef
    try revert M2
    try revert trap
    try revert M1
    try revert hB7
    try revert w7
    try revert e7
    try revert HM
    try revert HF
    try revert HM0
    try revert HF0
    try revert symm
    try revert k1
    try revert k0
    try revert g0
    try revert f0
    try revert s15
    try revert T9
    try revert z1'
    try revert z0'
    try revert v1'
    try revert v0'
    try revert I9
    try revert hf'
    try revert hg'
    try revert h1'
    try revert h2'
    try revert h2
    try revert T7
    try revert hB6
    try revert w6
    try revert e6
    try revert T6
    try revert hB5
    try revert w5
    try revert e5
    try revert h1
    try revert hg
    try revert hf0
    try revert s75
    try revert nd
    try revert W
    try revert kd
    try revert kc
    try revert HB
    try revert checkErr
    try revert hBB
    try revert BB
    try revert KD
    try revert KC
    try revert TH
    try revert v1
    try revert v0
    try revert Range
    try revert api
    try revert cells
    try revert T5
    try revert TgIn
    try revert T4
    try revert nc
    try revert J4
    try revert sc
    try revert y1
    try revert y0
    try revert keepA
    try revert hB4
    try revert w4
    try revert e4
    try revert n
    try revert J3
    try revert sn
    try revert x4
    try revert x3
    try revert bool
    try revert x2
    try revert x1
    try revert newA
    try revert x0
    try revert hB3
    try revert w3
    try revert e3
    try revert later
    try revert J2
    try revert hB2
    try revert w2
    try revert e2
    try revert out
    try revert bl
    try revert sq
    try revert sp
    try revert s2
    try revert s0
    try revert b1
    try revert b0
    try revert a1
    try revert a0
    try revert hid
    try revert Lib
    try revert J
    try revert hcut
    try revert I
    try revert drew
    try revert TgPre
    try revert pointer
    try revert q
    try revert p
    try revert wx
    try revert s8
    try revert s7
    try revert trans
    try revert le_refl
    try revert alloc
    try revert refl
    try revert Below
    try revert hT
    try revert n3
    try revert n2
    try revert n1
    try revert n0
    try revert l3
    try revert l2
    try revert l1
    try revert l0
    try revert o1
    try revert cell_later
    try revert i64
    try revert int
    try revert cell
    try revert o0
    try revert z2
    try revert z1
    try revert size
    try revert heap
    try revert z0
    try revert hB1
    try revert w1
    try revert e1
    try revert mono
    try revert _
    try revert fail
    try revert ntmps
    try revert RangesTight
    try revert law
    try revert func
    try revert A
    try revert hX
    try revert hC
    try revert hcd
    try revert hab
    try revert hf
    try revert hF
    try revert hK
    try revert hJ2
    try revert hJ1
    try revert hA
    try revert w
    try revert u'
    try revert t'
    try revert s'
    try revert u
    try revert t
    try revert s
    try revert hi'
    try revert lo'
    try revert g
    try revert d1
    try revert d0
    try revert f
    try revert c1
    try revert c0
    try revert hi
    try revert lo
    try revert m3
    try revert m2
    try revert m1
    try revert m0
    try revert d
    try revert c
    try revert b
    try revert a
    try revert k
    try revert o
    try revert hs
    first | clear u289 | revert u289 | skip
    first | clear u288 | revert u288 | skip
    first | clear u287 | revert u287 | skip
    first | clear u286 | revert u286 | skip
    first | clear u285 | revert u285 | skip
    first | clear u284 | revert u284 | skip
    first | clear u283 | revert u283 | skip
    first | clear u282 | revert u282 | skip
    first | clear u281 | revert u281 | skip
    first | clear u280 | revert u280 | skip
    first | clear u279 | revert u279 | skip
    first | clear u278 | revert u278 | skip
    first | clear u277 | revert u277 | skip
    first | clear u276 | revert u276 | skip
    first | clear u275 | revert u275 | skip
    first | clear u274 | revert u274 | skip
    first | clear u273 | revert u273 | skip
    first | clear u272 | revert u272 | skip
    first | clear u271 | revert u271 | skip
    first | clear u270 | revert u270 | skip
    first | clear u269 | revert u269 | skip
    first | clear u268 | revert u268 | skip
    first | clear u267 | revert u267 | skip
    first | clear u266 | revert u266 | skip
    first | clear u265 | revert u265 | skip
    first | clear u264 | revert u264 | skip
    first | clear u263 | revert u263 | skip
    first | clear u262 | revert u262 | skip
    first | clear u261 | revert u261 | skip
    first | clear u260 | revert u260 | skip
    first | clear u259 | revert u259 | skip
    first | clear u258 | revert u258 | skip
    first | clear u257 | revert u257 | skip
    first | clear u256 | revert u256 | skip
    first | clear u255 | revert u255 | skip
    first | clear u254 | revert u254 | skip
    first | clear u253 | revert u253 | skip
    first | clear u252 | revert u252 | skip
    first | clear u251 | revert u251 | skip
    first | clear u250 | revert u250 | skip
    first | clear u249 | revert u249 | skip
    first | clear u248 | revert u248 | skip
    first | clear u247 | revert u247 | skip
    first | clear u246 | revert u246 | skip
    first | clear u245 | revert u245 | skip
    first | clear u244 | revert u244 | skip
    first | clear u243 | revert u243 | skip
    first | clear u242 | revert u242 | skip
    first | clear u241 | revert u241 | skip
    first | clear u240 | revert u240 | skip
    first | clear u239 | revert u239 | skip
    first | clear u238 | revert u238 | skip
    first | clear u237 | revert u237 | skip
    first | clear u236 | revert u236 | skip
    first | clear u235 | revert u235 | skip
    first | clear u234 | revert u234 | skip
    first | clear u233 | revert u233 | skip
    first | clear u232 | revert u232 | skip
    first | clear u231 | revert u231 | skip
    first | clear u230 | revert u230 | skip
    first | clear u229 | revert u229 | skip
    first | clear u228 | revert u228 | skip
    first | clear u227 | revert u227 | skip
    first | clear u226 | revert u226 | skip
    first | clear u225 | revert u225 | skip
    first | clear u224 | revert u224 | skip
    first | clear u223 | revert u223 | skip
    first | clear u222 | revert u222 | skip
    first | clear u221 | revert u221 | skip
    first | clear u220 | revert u220 | skip
    first | clear u219 | revert u219 | skip
    first | clear u218 | revert u218 | skip
    first | clear u217 | revert u217 | skip
    first | clear u216 | revert u216 | skip
    first | clear u215 | revert u215 | skip
    first | clear u214 | revert u214 | skip
    first | clear u213 | revert u213 | skip
    first | clear u212 | revert u212 | skip
    first | clear u211 | revert u211 | skip
    first | clear u210 | revert u210 | skip
    first | clear u209 | revert u209 | skip
    first | clear u208 | revert u208 | skip
    first | clear u207 | revert u207 | skip
    first | clear u206 | revert u206 | skip
    first | clear u205 | revert u205 | skip
    first | clear u204 | revert u204 | skip
    first | clear u203 | revert u203 | skip
    first | clear u202 | revert u202 | skip
    first | clear u201 | revert u201 | skip
    first | clear u200 | revert u200 | skip
    first | clear u199 | revert u199 | skip
    first | clear u198 | revert u198 | skip
    first | clear u197 | revert u197 | skip
    first | clear u196 | revert u196 | skip
    first | clear u195 | revert u195 | skip
    first | clear u194 | revert u194 | skip
    first | clear u193 | revert u193 | skip
    first | clear u192 | revert u192 | skip
    first | clear u191 | revert u191 | skip
    first | clear u190 | revert u190 | skip
    first | clear u189 | revert u189 | skip
    first | clear u188 | revert u188 | skip
    first | clear u187 | revert u187 | skip
    first | clear u186 | revert u186 | skip
    first | clear u185 | revert u185 | skip
    first | clear u184 | revert u184 | skip
    first | clear u183 | revert u183 | skip
    first | clear u182 | revert u182 | skip
    first | clear u181 | revert u181 | skip
    first | clear u180 | revert u180 | skip
    first | clear u179 | revert u179 | skip
    first | clear u178 | revert u178 | skip
    first | clear u177 | revert u177 | skip
    first | clear u176 | revert u176 | skip
    first | clear u175 | revert u175 | skip
    first | clear u174 | revert u174 | skip
    first | clear u173 | revert u173 | skip
    first | clear u172 | revert u172 | skip
    first | clear u171 | revert u171 | skip
    first | clear u170 | revert u170 | skip
    first | clear u169 | revert u169 | skip
    first | clear u168 | revert u168 | skip
    first | clear u167 | revert u167 | skip
    first | clear u166 | revert u166 | skip
    first | clear u165 | revert u165 | skip
    first | clear u164 | revert u164 | skip
    first | clear u163 | revert u163 | skip
    first | clear u162 | revert u162 | skip
    first | clear u161 | revert u161 | skip
    first | clear u160 | revert u160 | skip
    first | clear u159 | revert u159 | skip
    first | clear u158 | revert u158 | skip
    first | clear u157 | revert u157 | skip
    first | clear u156 | revert u156 | skip
    first | clear u155 | revert u155 | skip
    first | clear u154 | revert u154 | skip
    first | clear u153 | revert u153 | skip
    first | clear u152 | revert u152 | skip
    first | clear u151 | revert u151 | skip
    first | clear u150 | revert u150 | skip
    first | clear u149 | revert u149 | skip
    first | clear u148 | revert u148 | skip
    first | clear u147 | revert u147 | skip
    first | clear u146 | revert u146 | skip
    first | clear u145 | revert u145 | skip
    first | clear u144 | revert u144 | skip
    first | clear u143 | revert u143 | skip
    first | clear u142 | revert u142 | skip
    first | clear u141 | revert u141 | skip
    first | clear u140 | revert u140 | skip
    first | clear u139 | revert u139 | skip
    first | clear u138 | revert u138 | skip
    first | clear u137 | revert u137 | skip
    first | clear u136 | revert u136 | skip
    first | clear u135 | revert u135 | skip
    first | clear u134 | revert u134 | skip
    first | clear u133 | revert u133 | skip
    first | clear u132 | revert u132 | skip
    first | clear u131 | revert u131 | skip
    first | clear u130 | revert u130 | skip
    first | clear u129 | revert u129 | skip
    first | clear u128 | revert u128 | skip
    first | clear u127 | revert u127 | skip
    first | clear u126 | revert u126 | skip
    first | clear u125 | revert u125 | skip
    first | clear u124 | revert u124 | skip
    first | clear u123 | revert u123 | skip
    first | clear u122 | revert u122 | skip
    first | clear u121 | revert u121 | skip
    first | clear u120 | revert u120 | skip
    first | clear u119 | revert u119 | skip
    first | clear u118 | revert u118 | skip
    first | clear u117 | revert u117 | skip
    first | clear u116 | revert u116 | skip
    first | clear u115 | revert u115 | skip
    first | clear u114 | revert u114 | skip
    first | clear u113 | revert u113 | skip
    first | clear u112 | revert u112 | skip
    first | clear u111 | revert u111 | skip
    first | clear u110 | revert u110 | skip
    first | clear u109 | revert u109 | skip
    first | clear u108 | revert u108 | skip
    first | clear u107 | revert u107 | skip
    first | clear u106 | revert u106 | skip
    first | clear u105 | revert u105 | skip
    first | clear u104 | revert u104 | skip
    first | clear u103 | revert u103 | skip
    first | clear u102 | revert u102 | skip
    first | clear u101 | revert u101 | skip
    first | clear u100 | revert u100 | skip
    first | clear u99 | revert u99 | skip
    first | clear u98 | revert u98 | skip
    first | clear u97 | revert u97 | skip
    first | clear u96 | revert u96 | skip
    first | clear u95 | revert u95 | skip
    first | clear u94 | revert u94 | skip
    first | clear u93 | revert u93 | skip
    first | clear u92 | revert u92 | skip
    first | clear u91 | revert u91 | skip
    first | clear u90 | revert u90 | skip
    first | clear u89 | revert u89 | skip
    first | clear u88 | revert u88 | skip
    first | clear u87 | revert u87 | skip
    first | clear u86 | revert u86 | skip
    first | clear u85 | revert u85 | skip
    first | clear u84 | revert u84 | skip
    first | clear u83 | revert u83 | skip
    first | clear u82 | revert u82 | skip
    first | clear u81 | revert u81 | skip
    first | clear u80 | revert u80 | skip
    first | clear u79 | revert u79 | skip
    first | clear u78 | revert u78 | skip
    first | clear u77 | revert u77 | skip
    first | clear u76 | revert u76 | skip
    first | clear u75 | revert u75 | skip
    first | clear u74 | revert u74 | skip
    first | clear u73 | revert u73 | skip
    first | clear u72 | revert u72 | skip
    first | clear u71 | revert u71 | skip
    first | clear u70 | revert u70 | skip
    first | clear u69 | revert u69 | skip
    first | clear u68 | revert u68 | skip
    first | clear u67 | revert u67 | skip
    first | clear u66 | revert u66 | skip
    first | clear u65 | revert u65 | skip
    first | clear u64 | revert u64 | skip
    first | clear u63 | revert u63 | skip
    first | clear u62 | revert u62 | skip
    first | clear u61 | revert u61 | skip
    first | clear u60 | revert u60 | skip
    first | clear u59 | revert u59 | skip
    first | clear u58 | revert u58 | skip
    first | clear u57 | revert u57 | skip
    first | clear u56 | revert u56 | skip
    first | clear u55 | revert u55 | skip
    first | clear u54 | revert u54 | skip
    first | clear u53 | revert u53 | skip
    first | clear u52 | revert u52 | skip
    first | clear u51 | revert u51 | skip
    first | clear u50 | revert u50 | skip
    first | clear u49 | revert u49 | skip
    first | clear u48 | revert u48 | skip
    first | clear u47 | revert u47 | skip
    first | clear u46 | revert u46 | skip
    first | clear u45 | revert u45 | skip
    first | clear u44 | revert u44 | skip
    first | clear u43 | revert u43 | skip
    first | clear u42 | revert u42 | skip
    first | clear u41 | revert u41 | skip
    first | clear u40 | revert u40 | skip
    first | clear u39 | revert u39 | skip
    first | clear u38 | revert u38 | skip
    first | clear u37 | revert u37 | skip
    first | clear u36 | revert u36 | skip
    first | clear u35 | revert u35 | skip
    first | clear u34 | revert u34 | skip
    first | clear u33 | revert u33 | skip
    first | clear u32 | revert u32 | skip
    first | clear u31 | revert u31 | skip
    first | clear u30 | revert u30 | skip
    first | clear u29 | revert u29 | skip
    first | clear u28 | revert u28 | skip
    first | clear u27 | revert u27 | skip
    first | clear u26 | revert u26 | skip
    first | clear u25 | revert u25 | skip
    first | clear u24 | revert u24 | skip
    first | clear u23 | revert u23 | skip
    first | clear u22 | revert u22 | skip
    first | clear u21 | revert u21 | skip
    first | clear u20 | revert u20 | skip
    first | clear u19 | revert u19 | skip
    first | clear u18 | revert u18 | skip
    first | clear u17 | revert u17 | skip
    first | clear u16 | revert u16 | skip
    first | clear u15 | revert u15 | skip
    first | clear u14 | revert u14 | skip
    first | clear u13 | revert u13 | skip
    first | clear u12 | revert u12 | skip
    first | clear u11 | revert u11 | skip
    first | clear u10 | revert u10 | skip
    first | clear u9 | revert u9 | skip
    first | clear u8 | revert u8 | skip
    first | clear u7 | revert u7 | skip
    first | clear u6 | revert u6 | skip
    first | clear u5 | revert u5 | skip
    first | clear u4 | revert u4 | skip
    first | clear u3 | revert u3 | skip
    first | clear u2 | revert u2 | skip
    first | clear u1 | revert u1 | skip
    first | clear u0 | revert u0 | skip
    exact hR.down
⟩

end Go.Proofs.Ytgkhldbnljdeiaa

/- A part of a walk. -/
namespace Go.Proofs.Ytgkhldbnljdeiaa
open Go.RowKit RangesMath

set_option maxRecDepth 100000 in
set_option maxHeartbeats 8000000 in
noncomputable def tight_walkS3 : (P : Prop) ×' (R : Prop) ×' (PLift P → PLift R → tight_walkS2.2.1) := ⟨_, _, by
  intro hP hR
  intro u24 u25 u26 u27 u28 u29 u30 u31 u32 u33 u34 u35 u36 u37 u38 u39 u40 u41 u42 u43 u44 u45 u46 u47 u48 u49 u50 u51 u52 u53 u54 u55 u56 u57 u58 u59 u60 u61 u62 u63 u64 u65 u66 u67 u68 u69 u70 u71 u72 u73 u74 u75 u76 u77 u78 u79 u80 u81 u82 u83 u84 u85 u86 u87 u88 u89 u90 u91 u92 u93 u94 u95 u96 u97 u98 u99 u100 u101 u102 u103 u104 u105 u106 u107 u108 u109 u110 u111 u112 u113 u114 u115 u116 u117 u118 u119 u120 u121 u122 u123 u124 u125 u126 u127 u128 u129 u130 u131 u132 u133 u134 u135 u136 u137 u138 u139 u140 u141 u142 u143 u144 u145 u146 u147 u148 u149 u150 u151 u152 u153 u154 u155 u156 u157 u158 u159 u160 u161 u162 u163 u164 u165 u166 u167 u168 u169 u170 u171 u172 u173 u174 u175 u176 u177 u178 u179 u180 u181 u182 u183 u184 u185 u186 u187 u188 u189 u190 u191 u192 u193 u194 u195 u196 u197 u198 u199 u200 u201 u202 u203 u204 u205 u206 u207 u208 u209 u210 u211 u212 u213 u214 u215 u216 u217 u218 u219 u220 u221 u222 u223 u224 u225 u226 u227 u228 u229 u230 u231 u232 u233 u234 u235 u236 u237 u238 u239 u240 u241 u242 u243 u244 u245 u246 u247 u248 u249 u250 u251 u252 u253 u254 u255 u256 u257 u258 u259 u260 u261 u262 u263 u264 u265 u266 u267 u268 u269 u270 u271 u272 u273 u274 u275 u276 u277 hs o k a b c d m0 m1 m2 m3 lo hi c0 c1 f d0 d1 g lo' hi' s t u s' t' u' w hA hJ1 hJ2 hK hf hab hcd hC hX w1 p q w2 w3 n w4 nc BB kc KC kd KD hF HB W v0 v1 TH nd z0 z1 wc hcut _ _ _ _ _
  obtain ⟨rfl, I9, v0', v1', z0', z1'⟩ := hcut
  clear v0 v1 z0 z1 TH
  have T9 := Lib.hid I9
  clear I9
  go_upto_if 75 with fail
  go_cut [15] (fun s15 wx => TgIn w wx o k a b c d p q n lo hi s t u)
  case first =>
    repeat (rename_i zz; first | (have tt : Value := zz; clear tt; clear zz) | (have tt : World := zz; clear tt; clear zz) | revert zz)
    try revert seen_end
    try revert he
    try revert seen_row
    try revert min_eq_right
    try revert q1'
    try revert max_eq_left
    try revert q2'
    try revert HS
    try revert max_eq_right
    try revert q2
    try revert min_eq_left
    try revert q1
    try revert seen_more
    try revert set
    try revert seen_first
    try revert sr
    try revert f1
    try revert r1
    try revert r0
    try revert Hn
    try revert HE
    try revert hn
    try revert hE
    try revert measure
    try revert seen
    try revert seen_skip
    try revert see
    try revert rel
    try revert Valid
    try revert hv
    try revert HN
    try revert HU
    try revert HT
    try revert L3
    try revert hN
    try revert hU
    try revert U
    try revert T
    try revert m
    try revert done_post
    try revert HD
    try revert hW
    try revert L2
    try revert ww
    try revert hV
    try revert ti
    try revert L1
    try revert hrel
    try revert v2
    try revert round
    try revert atStart
    try revert toNat
    try revert intOf
    try revert S
    try revert rh
    try revert rl
    try revert V
    try revert wr
    try revert vv
    try revert sv
    try revert bD1
    try revert bC1
    try revert bB1
    try revert bA1
    try revert hcd'
    try revert hab'
    try revert nr
    try revert W0
    try revert NN
    try revert NQ
    try revert NP
    try revert N0
    try revert seen_start
    try revert TgLoop
    try revert L0
    try revert FW
    try revert XX
    try revert exq
    try revert decide_eq_true_eq
    try revert and_eq_true
    try revert Few
    try revert few
    try revert h
    try revert on
    try revert kn
    try revert ex
    try revert fe
    try revert h6'
    try revert s220
    try revert HGO
    try revert hGO
    try revert GO
    try revert g6
    try revert g5
    try revert h6
    try revert g4
    try revert g3
    try revert s18
    try revert HEX
    try revert hEX
    try revert EX
    try revert decide_eq_true
    try revert h5'
    try revert h5
    try revert h4'
    try revert h4
    try revert h3'
    try revert h3
    try revert h0'
    try revert decide_eq_false
    try revert h0
    try revert wc
    try revert s17
    try revert HFE
    try revert wrap64
    try revert hFEW
    try revert FEW
    try revert T1
    try revert g2
    try revert g1
    try revert only
    try revert holds
    try revert M3
    try revert undef
    try revert M2
    try revert trap
    try revert M1
    try revert hB7
    try revert w7
    try revert e7
    try revert HM
    try revert HF
    try revert HM0
    try revert HF0
    try revert symm
    try revert k1
    try revert k0
    try revert g0
    try revert f0
    try revert s15
    try revert T9
    try revert z1'
    try revert z0'
    try revert v1'
    try revert v0'
    try revert I9
    try revert hf'
    try revert hg'
    try revert h1'
    try revert h2'
    try revert h2
    try revert T7
    try revert hB6
    try revert w6
    try revert e6
    try revert T6
    try revert hB5
    try revert w5
    try revert e5
    try revert h1
    try revert hg
    try revert hf0
    try revert s75
    try revert nd
    try revert W
    try revert kd
    try revert kc
    try revert HB
    try revert checkErr
    try revert hBB
    try revert BB
    try revert KD
    try revert KC
    try revert TH
    try revert v1
    try revert v0
    try revert Range
    try revert api
    try revert cells
    try revert T5
    try revert TgIn
    try revert T4
    try revert nc
    try revert J4
    try revert sc
    try revert y1
    try revert y0
    try revert keepA
    try revert hB4
    try revert w4
    try revert e4
    try revert n
    try revert J3
    try revert sn
    try revert x4
    try revert x3
    try revert bool
    try revert x2
    try revert x1
    try revert newA
    try revert x0
    try revert hB3
    try revert w3
    try revert e3
    try revert later
    try revert J2
    try revert hB2
    try revert w2
    try revert e2
    try revert out
    try revert bl
    try revert sq
    try revert sp
    try revert s2
    try revert s0
    try revert b1
    try revert b0
    try revert a1
    try revert a0
    try revert hid
    try revert Lib
    try revert J
    try revert hcut
    try revert I
    try revert drew
    try revert TgPre
    try revert pointer
    try revert q
    try revert p
    try revert wx
    try revert s8
    try revert s7
    try revert trans
    try revert le_refl
    try revert alloc
    try revert refl
    try revert Below
    try revert hT
    try revert n3
    try revert n2
    try revert n1
    try revert n0
    try revert l3
    try revert l2
    try revert l1
    try revert l0
    try revert o1
    try revert cell_later
    try revert i64
    try revert int
    try revert cell
    try revert o0
    try revert z2
    try revert z1
    try revert size
    try revert heap
    try revert z0
    try revert hB1
    try revert w1
    try revert e1
    try revert mono
    try revert _
    try revert fail
    try revert ntmps
    try revert RangesTight
    try revert law
    try revert func
    try revert A
    try revert hX
    try revert hC
    try revert hcd
    try revert hab
    try revert hf
    try revert hF
    try revert hK
    try revert hJ2
    try revert hJ1
    try revert hA
    try revert w
    try revert u'
    try revert t'
    try revert s'
    try revert u
    try revert t
    try revert s
    try revert hi'
    try revert lo'
    try revert g
    try revert d1
    try revert d0
    try revert f
    try revert c1
    try revert c0
    try revert hi
    try revert lo
    try revert m3
    try revert m2
    try revert m1
    try revert m0
    try revert d
    try revert c
    try revert b
    try revert a
    try revert k
    try revert o
    try revert hs
    first | clear u289 | revert u289 | skip
    first | clear u288 | revert u288 | skip
    first | clear u287 | revert u287 | skip
    first | clear u286 | revert u286 | skip
    first | clear u285 | revert u285 | skip
    first | clear u284 | revert u284 | skip
    first | clear u283 | revert u283 | skip
    first | clear u282 | revert u282 | skip
    first | clear u281 | revert u281 | skip
    first | clear u280 | revert u280 | skip
    first | clear u279 | revert u279 | skip
    first | clear u278 | revert u278 | skip
    first | clear u277 | revert u277 | skip
    first | clear u276 | revert u276 | skip
    first | clear u275 | revert u275 | skip
    first | clear u274 | revert u274 | skip
    first | clear u273 | revert u273 | skip
    first | clear u272 | revert u272 | skip
    first | clear u271 | revert u271 | skip
    first | clear u270 | revert u270 | skip
    first | clear u269 | revert u269 | skip
    first | clear u268 | revert u268 | skip
    first | clear u267 | revert u267 | skip
    first | clear u266 | revert u266 | skip
    first | clear u265 | revert u265 | skip
    first | clear u264 | revert u264 | skip
    first | clear u263 | revert u263 | skip
    first | clear u262 | revert u262 | skip
    first | clear u261 | revert u261 | skip
    first | clear u260 | revert u260 | skip
    first | clear u259 | revert u259 | skip
    first | clear u258 | revert u258 | skip
    first | clear u257 | revert u257 | skip
    first | clear u256 | revert u256 | skip
    first | clear u255 | revert u255 | skip
    first | clear u254 | revert u254 | skip
    first | clear u253 | revert u253 | skip
    first | clear u252 | revert u252 | skip
    first | clear u251 | revert u251 | skip
    first | clear u250 | revert u250 | skip
    first | clear u249 | revert u249 | skip
    first | clear u248 | revert u248 | skip
    first | clear u247 | revert u247 | skip
    first | clear u246 | revert u246 | skip
    first | clear u245 | revert u245 | skip
    first | clear u244 | revert u244 | skip
    first | clear u243 | revert u243 | skip
    first | clear u242 | revert u242 | skip
    first | clear u241 | revert u241 | skip
    first | clear u240 | revert u240 | skip
    first | clear u239 | revert u239 | skip
    first | clear u238 | revert u238 | skip
    first | clear u237 | revert u237 | skip
    first | clear u236 | revert u236 | skip
    first | clear u235 | revert u235 | skip
    first | clear u234 | revert u234 | skip
    first | clear u233 | revert u233 | skip
    first | clear u232 | revert u232 | skip
    first | clear u231 | revert u231 | skip
    first | clear u230 | revert u230 | skip
    first | clear u229 | revert u229 | skip
    first | clear u228 | revert u228 | skip
    first | clear u227 | revert u227 | skip
    first | clear u226 | revert u226 | skip
    first | clear u225 | revert u225 | skip
    first | clear u224 | revert u224 | skip
    first | clear u223 | revert u223 | skip
    first | clear u222 | revert u222 | skip
    first | clear u221 | revert u221 | skip
    first | clear u220 | revert u220 | skip
    first | clear u219 | revert u219 | skip
    first | clear u218 | revert u218 | skip
    first | clear u217 | revert u217 | skip
    first | clear u216 | revert u216 | skip
    first | clear u215 | revert u215 | skip
    first | clear u214 | revert u214 | skip
    first | clear u213 | revert u213 | skip
    first | clear u212 | revert u212 | skip
    first | clear u211 | revert u211 | skip
    first | clear u210 | revert u210 | skip
    first | clear u209 | revert u209 | skip
    first | clear u208 | revert u208 | skip
    first | clear u207 | revert u207 | skip
    first | clear u206 | revert u206 | skip
    first | clear u205 | revert u205 | skip
    first | clear u204 | revert u204 | skip
    first | clear u203 | revert u203 | skip
    first | clear u202 | revert u202 | skip
    first | clear u201 | revert u201 | skip
    first | clear u200 | revert u200 | skip
    first | clear u199 | revert u199 | skip
    first | clear u198 | revert u198 | skip
    first | clear u197 | revert u197 | skip
    first | clear u196 | revert u196 | skip
    first | clear u195 | revert u195 | skip
    first | clear u194 | revert u194 | skip
    first | clear u193 | revert u193 | skip
    first | clear u192 | revert u192 | skip
    first | clear u191 | revert u191 | skip
    first | clear u190 | revert u190 | skip
    first | clear u189 | revert u189 | skip
    first | clear u188 | revert u188 | skip
    first | clear u187 | revert u187 | skip
    first | clear u186 | revert u186 | skip
    first | clear u185 | revert u185 | skip
    first | clear u184 | revert u184 | skip
    first | clear u183 | revert u183 | skip
    first | clear u182 | revert u182 | skip
    first | clear u181 | revert u181 | skip
    first | clear u180 | revert u180 | skip
    first | clear u179 | revert u179 | skip
    first | clear u178 | revert u178 | skip
    first | clear u177 | revert u177 | skip
    first | clear u176 | revert u176 | skip
    first | clear u175 | revert u175 | skip
    first | clear u174 | revert u174 | skip
    first | clear u173 | revert u173 | skip
    first | clear u172 | revert u172 | skip
    first | clear u171 | revert u171 | skip
    first | clear u170 | revert u170 | skip
    first | clear u169 | revert u169 | skip
    first | clear u168 | revert u168 | skip
    first | clear u167 | revert u167 | skip
    first | clear u166 | revert u166 | skip
    first | clear u165 | revert u165 | skip
    first | clear u164 | revert u164 | skip
    first | clear u163 | revert u163 | skip
    first | clear u162 | revert u162 | skip
    first | clear u161 | revert u161 | skip
    first | clear u160 | revert u160 | skip
    first | clear u159 | revert u159 | skip
    first | clear u158 | revert u158 | skip
    first | clear u157 | revert u157 | skip
    first | clear u156 | revert u156 | skip
    first | clear u155 | revert u155 | skip
    first | clear u154 | revert u154 | skip
    first | clear u153 | revert u153 | skip
    first | clear u152 | revert u152 | skip
    first | clear u151 | revert u151 | skip
    first | clear u150 | revert u150 | skip
    first | clear u149 | revert u149 | skip
    first | clear u148 | revert u148 | skip
    first | clear u147 | revert u147 | skip
    first | clear u146 | revert u146 | skip
    first | clear u145 | revert u145 | skip
    first | clear u144 | revert u144 | skip
    first | clear u143 | revert u143 | skip
    first | clear u142 | revert u142 | skip
    first | clear u141 | revert u141 | skip
    first | clear u140 | revert u140 | skip
    first | clear u139 | revert u139 | skip
    first | clear u138 | revert u138 | skip
    first | clear u137 | revert u137 | skip
    first | clear u136 | revert u136 | skip
    first | clear u135 | revert u135 | skip
    first | clear u134 | revert u134 | skip
    first | clear u133 | revert u133 | skip
    first | clear u132 | revert u132 | skip
    first | clear u131 | revert u131 | skip
    first | clear u130 | revert u130 | skip
    first | clear u129 | revert u129 | skip
    first | clear u128 | revert u128 | skip
    first | clear u127 | revert u127 | skip
    first | clear u126 | revert u126 | skip
    first | clear u125 | revert u125 | skip
    first | clear u124 | revert u124 | skip
    first | clear u123 | revert u123 | skip
    first | clear u122 | revert u122 | skip
    first | clear u121 | revert u121 | skip
    first | clear u120 | revert u120 | skip
    first | clear u119 | revert u119 | skip
    first | clear u118 | revert u118 | skip
    first | clear u117 | revert u117 | skip
    first | clear u116 | revert u116 | skip
    first | clear u115 | revert u115 | skip
    first | clear u114 | revert u114 | skip
    first | clear u113 | revert u113 | skip
    first | clear u112 | revert u112 | skip
    first | clear u111 | revert u111 | skip
    first | clear u110 | revert u110 | skip
    first | clear u109 | revert u109 | skip
    first | clear u108 | revert u108 | skip
    first | clear u107 | revert u107 | skip
    first | clear u106 | revert u106 | skip
    first | clear u105 | revert u105 | skip
    first | clear u104 | revert u104 | skip
    first | clear u103 | revert u103 | skip
    first | clear u102 | revert u102 | skip
    first | clear u101 | revert u101 | skip
    first | clear u100 | revert u100 | skip
    first | clear u99 | revert u99 | skip
    first | clear u98 | revert u98 | skip
    first | clear u97 | revert u97 | skip
    first | clear u96 | revert u96 | skip
    first | clear u95 | revert u95 | skip
    first | clear u94 | revert u94 | skip
    first | clear u93 | revert u93 | skip
    first | clear u92 | revert u92 | skip
    first | clear u91 | revert u91 | skip
    first | clear u90 | revert u90 | skip
    first | clear u89 | revert u89 | skip
    first | clear u88 | revert u88 | skip
    first | clear u87 | revert u87 | skip
    first | clear u86 | revert u86 | skip
    first | clear u85 | revert u85 | skip
    first | clear u84 | revert u84 | skip
    first | clear u83 | revert u83 | skip
    first | clear u82 | revert u82 | skip
    first | clear u81 | revert u81 | skip
    first | clear u80 | revert u80 | skip
    first | clear u79 | revert u79 | skip
    first | clear u78 | revert u78 | skip
    first | clear u77 | revert u77 | skip
    first | clear u76 | revert u76 | skip
    first | clear u75 | revert u75 | skip
    first | clear u74 | revert u74 | skip
    first | clear u73 | revert u73 | skip
    first | clear u72 | revert u72 | skip
    first | clear u71 | revert u71 | skip
    first | clear u70 | revert u70 | skip
    first | clear u69 | revert u69 | skip
    first | clear u68 | revert u68 | skip
    first | clear u67 | revert u67 | skip
    first | clear u66 | revert u66 | skip
    first | clear u65 | revert u65 | skip
    first | clear u64 | revert u64 | skip
    first | clear u63 | revert u63 | skip
    first | clear u62 | revert u62 | skip
    first | clear u61 | revert u61 | skip
    first | clear u60 | revert u60 | skip
    first | clear u59 | revert u59 | skip
    first | clear u58 | revert u58 | skip
    first | clear u57 | revert u57 | skip
    first | clear u56 | revert u56 | skip
    first | clear u55 | revert u55 | skip
    first | clear u54 | revert u54 | skip
    first | clear u53 | revert u53 | skip
    first | clear u52 | revert u52 | skip
    first | clear u51 | revert u51 | skip
    first | clear u50 | revert u50 | skip
    first | clear u49 | revert u49 | skip
    first | clear u48 | revert u48 | skip
    first | clear u47 | revert u47 | skip
    first | clear u46 | revert u46 | skip
    first | clear u45 | revert u45 | skip
    first | clear u44 | revert u44 | skip
    first | clear u43 | revert u43 | skip
    first | clear u42 | revert u42 | skip
    first | clear u41 | revert u41 | skip
    first | clear u40 | revert u40 | skip
    first | clear u39 | revert u39 | skip
    first | clear u38 | revert u38 | skip
    first | clear u37 | revert u37 | skip
    first | clear u36 | revert u36 | skip
    first | clear u35 | revert u35 | skip
    first | clear u34 | revert u34 | skip
    first | clear u33 | revert u33 | skip
    first | clear u32 | revert u32 | skip
    first | clear u31 | revert u31 | skip
    first | clear u30 | revert u30 | skip
    first | clear u29 | revert u29 | skip
    first | clear u28 | revert u28 | skip
    first | clear u27 | revert u27 | skip
    first | clear u26 | revert u26 | skip
    first | clear u25 | revert u25 | skip
    first | clear u24 | revert u24 | skip
    first | clear u23 | revert u23 | skip
    first | clear u22 | revert u22 | skip
    first | clear u21 | revert u21 | skip
    first | clear u20 | revert u20 | skip
    first | clear u19 | revert u19 | skip
    first | clear u18 | revert u18 | skip
    first | clear u17 | revert u17 | skip
    first | clear u16 | revert u16 | skip
    first | clear u15 | revert u15 | skip
    first | clear u14 | revert u14 | skip
    first | clear u13 | revert u13 | skip
    first | clear u12 | revert u12 | skip
    first | clear u11 | revert u11 | skip
    first | clear u10 | revert u10 | skip
    first | clear u9 | revert u9 | skip
    first | clear u8 | revert u8 | skip
    first | clear u7 | revert u7 | skip
    first | clear u6 | revert u6 | skip
    first | clear u5 | revert u5 | skip
    first | clear u4 | revert u4 | skip
    first | clear u3 | revert u3 | skip
    first | clear u2 | revert u2 | skip
    first | clear u1 | revert u1 | skip
    first | clear u0 | revert u0 | skip
    exact hP.down
  case rest =>
    repeat (rename_i zz; first | (have tt : Value := zz; clear tt; clear zz) | (have tt : World := zz; clear tt; clear zz) | revert zz)
    try revert seen_end
    try revert he
    try revert seen_row
    try revert min_eq_right
    try revert q1'
    try revert max_eq_left
    try revert q2'
    try revert HS
    try revert max_eq_right
    try revert q2
    try revert min_eq_left
    try revert q1
    try revert seen_more
    try revert set
    try revert seen_first
    try revert sr
    try revert f1
    try revert r1
    try revert r0
    try revert Hn
    try revert HE
    try revert hn
    try revert hE
    try revert measure
    try revert seen
    try revert seen_skip
    try revert see
    try revert rel
    try revert Valid
    try revert hv
    try revert HN
    try revert HU
    try revert HT
    try revert L3
    try revert hN
    try revert hU
    try revert U
    try revert T
    try revert m
    try revert done_post
    try revert HD
    try revert hW
    try revert L2
    try revert ww
    try revert hV
    try revert ti
    try revert L1
    try revert hrel
    try revert v2
    try revert round
    try revert atStart
    try revert toNat
    try revert intOf
    try revert S
    try revert rh
    try revert rl
    try revert V
    try revert wr
    try revert vv
    try revert sv
    try revert bD1
    try revert bC1
    try revert bB1
    try revert bA1
    try revert hcd'
    try revert hab'
    try revert nr
    try revert W0
    try revert NN
    try revert NQ
    try revert NP
    try revert N0
    try revert seen_start
    try revert TgLoop
    try revert L0
    try revert FW
    try revert XX
    try revert exq
    try revert decide_eq_true_eq
    try revert and_eq_true
    try revert Few
    try revert few
    try revert h
    try revert on
    try revert kn
    try revert ex
    try revert fe
    try revert h6'
    try revert s220
    try revert HGO
    try revert hGO
    try revert GO
    try revert g6
    try revert g5
    try revert h6
    try revert g4
    try revert g3
    try revert s18
    try revert HEX
    try revert hEX
    try revert EX
    try revert decide_eq_true
    try revert h5'
    try revert h5
    try revert h4'
    try revert h4
    try revert h3'
    try revert h3
    try revert h0'
    try revert decide_eq_false
    try revert h0
    try revert wc
    try revert s17
    try revert HFE
    try revert wrap64
    try revert hFEW
    try revert FEW
    try revert T1
    try revert g2
    try revert g1
    try revert only
    try revert holds
    try revert M3
    try revert undef
    try revert M2
    try revert trap
    try revert M1
    try revert hB7
    try revert w7
    try revert e7
    try revert HM
    try revert HF
    try revert HM0
    try revert HF0
    try revert symm
    try revert k1
    try revert k0
    try revert g0
    try revert f0
    try revert s15
    try revert T9
    try revert z1'
    try revert z0'
    try revert v1'
    try revert v0'
    try revert I9
    try revert hf'
    try revert hg'
    try revert h1'
    try revert h2'
    try revert h2
    try revert T7
    try revert hB6
    try revert w6
    try revert e6
    try revert T6
    try revert hB5
    try revert w5
    try revert e5
    try revert h1
    try revert hg
    try revert hf0
    try revert s75
    try revert nd
    try revert W
    try revert kd
    try revert kc
    try revert HB
    try revert checkErr
    try revert hBB
    try revert BB
    try revert KD
    try revert KC
    try revert TH
    try revert v1
    try revert v0
    try revert Range
    try revert api
    try revert cells
    try revert T5
    try revert TgIn
    try revert T4
    try revert nc
    try revert J4
    try revert sc
    try revert y1
    try revert y0
    try revert keepA
    try revert hB4
    try revert w4
    try revert e4
    try revert n
    try revert J3
    try revert sn
    try revert x4
    try revert x3
    try revert bool
    try revert x2
    try revert x1
    try revert newA
    try revert x0
    try revert hB3
    try revert w3
    try revert e3
    try revert later
    try revert J2
    try revert hB2
    try revert w2
    try revert e2
    try revert out
    try revert bl
    try revert sq
    try revert sp
    try revert s2
    try revert s0
    try revert b1
    try revert b0
    try revert a1
    try revert a0
    try revert hid
    try revert Lib
    try revert J
    try revert hcut
    try revert I
    try revert drew
    try revert TgPre
    try revert pointer
    try revert q
    try revert p
    try revert wx
    try revert s8
    try revert s7
    try revert trans
    try revert le_refl
    try revert alloc
    try revert refl
    try revert Below
    try revert hT
    try revert n3
    try revert n2
    try revert n1
    try revert n0
    try revert l3
    try revert l2
    try revert l1
    try revert l0
    try revert o1
    try revert cell_later
    try revert i64
    try revert int
    try revert cell
    try revert o0
    try revert z2
    try revert z1
    try revert size
    try revert heap
    try revert z0
    try revert hB1
    try revert w1
    try revert e1
    try revert mono
    try revert _
    try revert fail
    try revert ntmps
    try revert RangesTight
    try revert law
    try revert func
    try revert A
    try revert hX
    try revert hC
    try revert hcd
    try revert hab
    try revert hf
    try revert hF
    try revert hK
    try revert hJ2
    try revert hJ1
    try revert hA
    try revert w
    try revert u'
    try revert t'
    try revert s'
    try revert u
    try revert t
    try revert s
    try revert hi'
    try revert lo'
    try revert g
    try revert d1
    try revert d0
    try revert f
    try revert c1
    try revert c0
    try revert hi
    try revert lo
    try revert m3
    try revert m2
    try revert m1
    try revert m0
    try revert d
    try revert c
    try revert b
    try revert a
    try revert k
    try revert o
    try revert hs
    first | clear u289 | revert u289 | skip
    first | clear u288 | revert u288 | skip
    first | clear u287 | revert u287 | skip
    first | clear u286 | revert u286 | skip
    first | clear u285 | revert u285 | skip
    first | clear u284 | revert u284 | skip
    first | clear u283 | revert u283 | skip
    first | clear u282 | revert u282 | skip
    first | clear u281 | revert u281 | skip
    first | clear u280 | revert u280 | skip
    first | clear u279 | revert u279 | skip
    first | clear u278 | revert u278 | skip
    first | clear u277 | revert u277 | skip
    first | clear u276 | revert u276 | skip
    first | clear u275 | revert u275 | skip
    first | clear u274 | revert u274 | skip
    first | clear u273 | revert u273 | skip
    first | clear u272 | revert u272 | skip
    first | clear u271 | revert u271 | skip
    first | clear u270 | revert u270 | skip
    first | clear u269 | revert u269 | skip
    first | clear u268 | revert u268 | skip
    first | clear u267 | revert u267 | skip
    first | clear u266 | revert u266 | skip
    first | clear u265 | revert u265 | skip
    first | clear u264 | revert u264 | skip
    first | clear u263 | revert u263 | skip
    first | clear u262 | revert u262 | skip
    first | clear u261 | revert u261 | skip
    first | clear u260 | revert u260 | skip
    first | clear u259 | revert u259 | skip
    first | clear u258 | revert u258 | skip
    first | clear u257 | revert u257 | skip
    first | clear u256 | revert u256 | skip
    first | clear u255 | revert u255 | skip
    first | clear u254 | revert u254 | skip
    first | clear u253 | revert u253 | skip
    first | clear u252 | revert u252 | skip
    first | clear u251 | revert u251 | skip
    first | clear u250 | revert u250 | skip
    first | clear u249 | revert u249 | skip
    first | clear u248 | revert u248 | skip
    first | clear u247 | revert u247 | skip
    first | clear u246 | revert u246 | skip
    first | clear u245 | revert u245 | skip
    first | clear u244 | revert u244 | skip
    first | clear u243 | revert u243 | skip
    first | clear u242 | revert u242 | skip
    first | clear u241 | revert u241 | skip
    first | clear u240 | revert u240 | skip
    first | clear u239 | revert u239 | skip
    first | clear u238 | revert u238 | skip
    first | clear u237 | revert u237 | skip
    first | clear u236 | revert u236 | skip
    first | clear u235 | revert u235 | skip
    first | clear u234 | revert u234 | skip
    first | clear u233 | revert u233 | skip
    first | clear u232 | revert u232 | skip
    first | clear u231 | revert u231 | skip
    first | clear u230 | revert u230 | skip
    first | clear u229 | revert u229 | skip
    first | clear u228 | revert u228 | skip
    first | clear u227 | revert u227 | skip
    first | clear u226 | revert u226 | skip
    first | clear u225 | revert u225 | skip
    first | clear u224 | revert u224 | skip
    first | clear u223 | revert u223 | skip
    first | clear u222 | revert u222 | skip
    first | clear u221 | revert u221 | skip
    first | clear u220 | revert u220 | skip
    first | clear u219 | revert u219 | skip
    first | clear u218 | revert u218 | skip
    first | clear u217 | revert u217 | skip
    first | clear u216 | revert u216 | skip
    first | clear u215 | revert u215 | skip
    first | clear u214 | revert u214 | skip
    first | clear u213 | revert u213 | skip
    first | clear u212 | revert u212 | skip
    first | clear u211 | revert u211 | skip
    first | clear u210 | revert u210 | skip
    first | clear u209 | revert u209 | skip
    first | clear u208 | revert u208 | skip
    first | clear u207 | revert u207 | skip
    first | clear u206 | revert u206 | skip
    first | clear u205 | revert u205 | skip
    first | clear u204 | revert u204 | skip
    first | clear u203 | revert u203 | skip
    first | clear u202 | revert u202 | skip
    first | clear u201 | revert u201 | skip
    first | clear u200 | revert u200 | skip
    first | clear u199 | revert u199 | skip
    first | clear u198 | revert u198 | skip
    first | clear u197 | revert u197 | skip
    first | clear u196 | revert u196 | skip
    first | clear u195 | revert u195 | skip
    first | clear u194 | revert u194 | skip
    first | clear u193 | revert u193 | skip
    first | clear u192 | revert u192 | skip
    first | clear u191 | revert u191 | skip
    first | clear u190 | revert u190 | skip
    first | clear u189 | revert u189 | skip
    first | clear u188 | revert u188 | skip
    first | clear u187 | revert u187 | skip
    first | clear u186 | revert u186 | skip
    first | clear u185 | revert u185 | skip
    first | clear u184 | revert u184 | skip
    first | clear u183 | revert u183 | skip
    first | clear u182 | revert u182 | skip
    first | clear u181 | revert u181 | skip
    first | clear u180 | revert u180 | skip
    first | clear u179 | revert u179 | skip
    first | clear u178 | revert u178 | skip
    first | clear u177 | revert u177 | skip
    first | clear u176 | revert u176 | skip
    first | clear u175 | revert u175 | skip
    first | clear u174 | revert u174 | skip
    first | clear u173 | revert u173 | skip
    first | clear u172 | revert u172 | skip
    first | clear u171 | revert u171 | skip
    first | clear u170 | revert u170 | skip
    first | clear u169 | revert u169 | skip
    first | clear u168 | revert u168 | skip
    first | clear u167 | revert u167 | skip
    first | clear u166 | revert u166 | skip
    first | clear u165 | revert u165 | skip
    first | clear u164 | revert u164 | skip
    first | clear u163 | revert u163 | skip
    first | clear u162 | revert u162 | skip
    first | clear u161 | revert u161 | skip
    first | clear u160 | revert u160 | skip
    first | clear u159 | revert u159 | skip
    first | clear u158 | revert u158 | skip
    first | clear u157 | revert u157 | skip
    first | clear u156 | revert u156 | skip
    first | clear u155 | revert u155 | skip
    first | clear u154 | revert u154 | skip
    first | clear u153 | revert u153 | skip
    first | clear u152 | revert u152 | skip
    first | clear u151 | revert u151 | skip
    first | clear u150 | revert u150 | skip
    first | clear u149 | revert u149 | skip
    first | clear u148 | revert u148 | skip
    first | clear u147 | revert u147 | skip
    first | clear u146 | revert u146 | skip
    first | clear u145 | revert u145 | skip
    first | clear u144 | revert u144 | skip
    first | clear u143 | revert u143 | skip
    first | clear u142 | revert u142 | skip
    first | clear u141 | revert u141 | skip
    first | clear u140 | revert u140 | skip
    first | clear u139 | revert u139 | skip
    first | clear u138 | revert u138 | skip
    first | clear u137 | revert u137 | skip
    first | clear u136 | revert u136 | skip
    first | clear u135 | revert u135 | skip
    first | clear u134 | revert u134 | skip
    first | clear u133 | revert u133 | skip
    first | clear u132 | revert u132 | skip
    first | clear u131 | revert u131 | skip
    first | clear u130 | revert u130 | skip
    first | clear u129 | revert u129 | skip
    first | clear u128 | revert u128 | skip
    first | clear u127 | revert u127 | skip
    first | clear u126 | revert u126 | skip
    first | clear u125 | revert u125 | skip
    first | clear u124 | revert u124 | skip
    first | clear u123 | revert u123 | skip
    first | clear u122 | revert u122 | skip
    first | clear u121 | revert u121 | skip
    first | clear u120 | revert u120 | skip
    first | clear u119 | revert u119 | skip
    first | clear u118 | revert u118 | skip
    first | clear u117 | revert u117 | skip
    first | clear u116 | revert u116 | skip
    first | clear u115 | revert u115 | skip
    first | clear u114 | revert u114 | skip
    first | clear u113 | revert u113 | skip
    first | clear u112 | revert u112 | skip
    first | clear u111 | revert u111 | skip
    first | clear u110 | revert u110 | skip
    first | clear u109 | revert u109 | skip
    first | clear u108 | revert u108 | skip
    first | clear u107 | revert u107 | skip
    first | clear u106 | revert u106 | skip
    first | clear u105 | revert u105 | skip
    first | clear u104 | revert u104 | skip
    first | clear u103 | revert u103 | skip
    first | clear u102 | revert u102 | skip
    first | clear u101 | revert u101 | skip
    first | clear u100 | revert u100 | skip
    first | clear u99 | revert u99 | skip
    first | clear u98 | revert u98 | skip
    first | clear u97 | revert u97 | skip
    first | clear u96 | revert u96 | skip
    first | clear u95 | revert u95 | skip
    first | clear u94 | revert u94 | skip
    first | clear u93 | revert u93 | skip
    first | clear u92 | revert u92 | skip
    first | clear u91 | revert u91 | skip
    first | clear u90 | revert u90 | skip
    first | clear u89 | revert u89 | skip
    first | clear u88 | revert u88 | skip
    first | clear u87 | revert u87 | skip
    first | clear u86 | revert u86 | skip
    first | clear u85 | revert u85 | skip
    first | clear u84 | revert u84 | skip
    first | clear u83 | revert u83 | skip
    first | clear u82 | revert u82 | skip
    first | clear u81 | revert u81 | skip
    first | clear u80 | revert u80 | skip
    first | clear u79 | revert u79 | skip
    first | clear u78 | revert u78 | skip
    first | clear u77 | revert u77 | skip
    first | clear u76 | revert u76 | skip
    first | clear u75 | revert u75 | skip
    first | clear u74 | revert u74 | skip
    first | clear u73 | revert u73 | skip
    first | clear u72 | revert u72 | skip
    first | clear u71 | revert u71 | skip
    first | clear u70 | revert u70 | skip
    first | clear u69 | revert u69 | skip
    first | clear u68 | revert u68 | skip
    first | clear u67 | revert u67 | skip
    first | clear u66 | revert u66 | skip
    first | clear u65 | revert u65 | skip
    first | clear u64 | revert u64 | skip
    first | clear u63 | revert u63 | skip
    first | clear u62 | revert u62 | skip
    first | clear u61 | revert u61 | skip
    first | clear u60 | revert u60 | skip
    first | clear u59 | revert u59 | skip
    first | clear u58 | revert u58 | skip
    first | clear u57 | revert u57 | skip
    first | clear u56 | revert u56 | skip
    first | clear u55 | revert u55 | skip
    first | clear u54 | revert u54 | skip
    first | clear u53 | revert u53 | skip
    first | clear u52 | revert u52 | skip
    first | clear u51 | revert u51 | skip
    first | clear u50 | revert u50 | skip
    first | clear u49 | revert u49 | skip
    first | clear u48 | revert u48 | skip
    first | clear u47 | revert u47 | skip
    first | clear u46 | revert u46 | skip
    first | clear u45 | revert u45 | skip
    first | clear u44 | revert u44 | skip
    first | clear u43 | revert u43 | skip
    first | clear u42 | revert u42 | skip
    first | clear u41 | revert u41 | skip
    first | clear u40 | revert u40 | skip
    first | clear u39 | revert u39 | skip
    first | clear u38 | revert u38 | skip
    first | clear u37 | revert u37 | skip
    first | clear u36 | revert u36 | skip
    first | clear u35 | revert u35 | skip
    first | clear u34 | revert u34 | skip
    first | clear u33 | revert u33 | skip
    first | clear u32 | revert u32 | skip
    first | clear u31 | revert u31 | skip
    first | clear u30 | revert u30 | skip
    first | clear u29 | revert u29 | skip
    first | clear u28 | revert u28 | skip
    first | clear u27 | revert u27 | skip
    first | clear u26 | revert u26 | skip
    first | clear u25 | revert u25 | skip
    first | clear u24 | revert u24 | skip
    first | clear u23 | revert u23 | skip
    first | clear u22 | revert u22 | skip
    first | clear u21 | revert u21 | skip
    first | clear u20 | revert u20 | skip
    first | clear u19 | revert u19 | skip
    first | clear u18 | revert u18 | skip
    first | clear u17 | revert u17 | skip
    first | clear u16 | revert u16 | skip
    first | clear u15 | revert u15 | skip
    first | clear u14 | revert u14 | skip
    first | clear u13 | revert u13 | skip
    first | clear u12 | revert u12 | skip
    first | clear u11 | revert u11 | skip
    first | clear u10 | revert u10 | skip
    first | clear u9 | revert u9 | skip
    first | clear u8 | revert u8 | skip
    first | clear u7 | revert u7 | skip
    first | clear u6 | revert u6 | skip
    first | clear u5 | revert u5 | skip
    first | clear u4 | revert u4 | skip
    first | clear u3 | revert u3 | skip
    first | clear u2 | revert u2 | skip
    first | clear u1 | revert u1 | skip
    first | clear u0 | revert u0 | skip
    exact hR.down
⟩

end Go.Proofs.Ytgkhldbnljdeiaa
