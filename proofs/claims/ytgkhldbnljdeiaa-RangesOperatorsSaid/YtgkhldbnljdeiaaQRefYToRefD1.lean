/- RefY, RefD0, RefD1. -/
import Derived.Deep.AppendLies
import Derived.OwnWalk
import Derived.Test.YtgkhldbnljdeiaaQRefLToRangesB
import Derived.Test.YtgkhldbnljdeiaaQRefQToRefS
import Derived.Test.YtgkhldbnljdeiaaQLawOpsToRangesE
import Derived.LoopTactic
import Derived.Deep.RegionHeld3
import Derived.Deep.DeepCutAuto
import Derived.Deep.CutBlock
import Derived.Deep.DrawnRows
set_option maxRecDepth 100000
set_option maxHeartbeats 2000000
set_option linter.unusedSimpArgs false
set_option linter.unusedVariables false
namespace Go.Proofs.Ytgkhldbnljdeiaa
open Go.RowKit
attribute [local go_sem] World.setCell_self
theorem info_range : (Try.prog.info? 23).map (fun i => (i.zero, i.size, i.bytes)) = some (some (.agg #[.int .i64 0, .int .i64 0]), 2, 16) := by kernel_rfl
/-- The cells of a row of ranges. -/
def flat2 (l : List (Int × Int)) : List Value := l.flatMap fun p => [.int .i64 p.1, .int .i64 p.2]
def PartsOut (l : List (Int × Int)) (w : World) (e : Ending) (w' : World) : Prop := ∃ v, e = .returned v ∧ w'.ownsRow w.heap.size 23 2 v l.length (flat2 l) ∧ Below w.heap.size w w'
theorem below_grown {B : Nat} {w wx wy : World} {row : Option Nat} (h : Below B w wx) (hg : wx.grownBy wy row) (hr : ∀ k, row = some k → B ≤ k) (hB : B ≤ wx.heap.size) : Below B w wy :=
 h.grown hg hB hr
theorem parts_none (c d : Int) (w : World) (h1 : decide (c < 0) = false) (h2 : decide (0 < d) = false) :
   Calls Try.prog 63 #[.agg #[.int .i64 c, .int .i64 d]] w (PartsOut [] w) := by
 go_enter Try.func63, Try.ntmps63
 go_wp2
 go_ret
 exact ⟨_, rfl, World.ownsRow_nil _ _ _ _, (Below.refl _ _).alloc (Nat.le_refl _) _⟩
theorem parts_neg (c d : Int) (w : World) (h1 : c < 0) (h2 : d ≤ -1) :
   Calls Try.prog 63 #[.agg #[.int .i64 c, .int .i64 d]] w (PartsOut [(c, d)] w) := by
 obtain ⟨i0, hi, hz0, hz1, hz2⟩ := info_parts info_range
 go_enter Try.func63, Try.ntmps63
 go_wp2_with (at_builtin; refine wpList_append_lies _ rfl (.tmp 7) (.tmp 14) 94 rfl w.heap.size 23 i0 _ 2 16 Try.underlying94 hi hz0 hz1 hz2 rfl (by omega) _ 0 [] rfl (World.ownsRow_nil _ _ _ _) ⟨_, 0, none⟩ 1 1 [.int .i64 c, .int .i64 d] rfl rfl ?c1 ?c2 (by omega) (by unfold maxLen; omega) (by omega) ?c3 _ rfl ?_)
 case c1 =>
   intro j u hj
   match j, hj with
   | 0, hj => simp at hj; subst hj; simp [Addr.add]
   | 1, hj => simp at hj; subst hj; simp [Addr.add]
 case c2 =>
   intro u hu
   simp at hu
   rcases hu with rfl | rfl <;> rfl
 case c3 => simp; try omega
 intro g1 cap1 w1 hown1 hgrow1 hat1 hlt1
 have hb1 : Below w.heap.size w w1 := below_grown (((Below.refl _ _).alloc (Nat.le_refl _) _).alloc (by simp) _) hgrow1 (by simp [Value.ownBlock]) (by simp; omega)
 have a0 : w1.cell? ⟨w.heap.size, 0, none⟩ = some (.int .i64 c) := by rw [hgrow1.cell_far _ (by simp; try omega) (by simp [Value.ownBlock])]; go_simp
 have a1 : w1.cell? ⟨w.heap.size, 1, none⟩ = some (.int .i64 d) := by rw [hgrow1.cell_far _ (by simp; try omega) (by simp [Value.ownBlock])]; go_simp
 clear hgrow1 hat1
 go_wp2
 go_ret
 exact ⟨_, rfl, hown1, hb1⟩
theorem parts_neg0 (c d : Int) (w : World) (h1 : c < 0) (h2 : -1 < d) (h3 : decide (0 < d) = false) :
   Calls Try.prog 63 #[.agg #[.int .i64 c, .int .i64 d]] w (PartsOut [(c, -1)] w) := by
 obtain ⟨i0, hi, hz0, hz1, hz2⟩ := info_parts info_range
 go_enter Try.func63, Try.ntmps63
 go_wp2_with (at_builtin; refine wpList_append_lies _ rfl (.tmp 7) (.tmp 14) 94 rfl w.heap.size 23 i0 _ 2 16 Try.underlying94 hi hz0 hz1 hz2 rfl (by omega) _ 0 [] rfl (World.ownsRow_nil _ _ _ _) ⟨_, 0, none⟩ 1 1 [.int .i64 c, .int .i64 (-1)] rfl rfl ?c1 ?c2 (by omega) (by unfold maxLen; omega) (by omega) ?c3 _ rfl ?_)
 case c1 =>
   intro j u hj
   match j, hj with
   | 0, hj => simp at hj; subst hj; simp [Addr.add]
   | 1, hj => simp at hj; subst hj; simp [Addr.add]
 case c2 =>
   intro u hu
   simp at hu
   rcases hu with rfl | rfl <;> rfl
 case c3 => simp; try omega
 intro g1 cap1 w1 hown1 hgrow1 hat1 hlt1
 have hb1 : Below w.heap.size w w1 := below_grown (((Below.refl _ _).alloc (Nat.le_refl _) _).alloc (by simp) _) hgrow1 (by simp [Value.ownBlock]) (by simp; omega)
 have a0 : w1.cell? ⟨w.heap.size, 0, none⟩ = some (.int .i64 c) := by rw [hgrow1.cell_far _ (by simp; try omega) (by simp [Value.ownBlock])]; go_simp
 have a1 : w1.cell? ⟨w.heap.size, 1, none⟩ = some (.int .i64 d) := by rw [hgrow1.cell_far _ (by simp; try omega) (by simp [Value.ownBlock])]; go_simp
 clear hgrow1 hat1
 go_wp2
 go_ret
 exact ⟨_, rfl, hown1, hb1⟩
theorem parts_pos (c d : Int) (w : World) (h1 : 1 ≤ c) (h2 : 0 < d) :
   Calls Try.prog 63 #[.agg #[.int .i64 c, .int .i64 d]] w (PartsOut [(c, d)] w) := by
 obtain ⟨i0, hi, hz0, hz1, hz2⟩ := info_parts info_range
 go_enter Try.func63, Try.ntmps63
 go_wp2_with (at_builtin; refine wpList_append_lies _ rfl (.tmp 19) (.tmp 26) 94 rfl w.heap.size 23 i0 _ 2 16 Try.underlying94 hi hz0 hz1 hz2 rfl (by omega) _ 0 [] rfl (World.ownsRow_nil _ _ _ _) ⟨_, 0, none⟩ 1 1 [.int .i64 c, .int .i64 d] rfl rfl ?c1 ?c2 (by omega) (by unfold maxLen; omega) (by omega) ?c3 _ rfl ?_)
 case c1 =>
   intro j u hj
   match j, hj with
   | 0, hj => simp at hj; subst hj; simp [Addr.add]
   | 1, hj => simp at hj; subst hj; simp [Addr.add]
 case c2 =>
   intro u hu
   simp at hu
   rcases hu with rfl | rfl <;> rfl
 case c3 => simp; try omega
 intro g1 cap1 w1 hown1 hgrow1 hat1 hlt1
 have hb1 : Below w.heap.size w w1 := below_grown (((Below.refl _ _).alloc (Nat.le_refl _) _).alloc (by simp) _) hgrow1 (by simp [Value.ownBlock]) (by simp; omega)
 have a0 : w1.cell? ⟨w.heap.size, 0, none⟩ = some (.int .i64 c) := by rw [hgrow1.cell_far _ (by simp; try omega) (by simp [Value.ownBlock])]; go_simp
 have a1 : w1.cell? ⟨w.heap.size, 1, none⟩ = some (.int .i64 d) := by rw [hgrow1.cell_far _ (by simp; try omega) (by simp [Value.ownBlock])]; go_simp
 clear hgrow1 hat1
 go_wp2
 go_ret
 exact ⟨_, rfl, hown1, hb1⟩
theorem parts_pos0 (c d : Int) (w : World) (h1 : decide (c < 0) = false) (h2 : c < 1) (h3 : 0 < d) :
   Calls Try.prog 63 #[.agg #[.int .i64 c, .int .i64 d]] w (PartsOut [(1, d)] w) := by
 obtain ⟨i0, hi, hz0, hz1, hz2⟩ := info_parts info_range
 go_enter Try.func63, Try.ntmps63
 go_wp2_with (at_builtin; refine wpList_append_lies _ rfl (.tmp 19) (.tmp 26) 94 rfl w.heap.size 23 i0 _ 2 16 Try.underlying94 hi hz0 hz1 hz2 rfl (by omega) _ 0 [] rfl (World.ownsRow_nil _ _ _ _) ⟨_, 0, none⟩ 1 1 [.int .i64 1, .int .i64 d] rfl rfl ?c1 ?c2 (by omega) (by unfold maxLen; omega) (by omega) ?c3 _ rfl ?_)
 case c1 =>
   intro j u hj
   match j, hj with
   | 0, hj => simp at hj; subst hj; simp [Addr.add]
   | 1, hj => simp at hj; subst hj; simp [Addr.add]
 case c2 =>
   intro u hu
   simp at hu
   rcases hu with rfl | rfl <;> rfl
 case c3 => simp; try omega
 intro g1 cap1 w1 hown1 hgrow1 hat1 hlt1
 have hb1 : Below w.heap.size w w1 := below_grown (((Below.refl _ _).alloc (Nat.le_refl _) _).alloc (by simp) _) hgrow1 (by simp [Value.ownBlock]) (by simp; omega)
 have a0 : w1.cell? ⟨w.heap.size, 0, none⟩ = some (.int .i64 c) := by rw [hgrow1.cell_far _ (by simp; try omega) (by simp [Value.ownBlock])]; go_simp
 have a1 : w1.cell? ⟨w.heap.size, 1, none⟩ = some (.int .i64 d) := by rw [hgrow1.cell_far _ (by simp; try omega) (by simp [Value.ownBlock])]; go_simp
 clear hgrow1 hat1
 go_wp2
 go_ret
 exact ⟨_, rfl, hown1, hb1⟩
theorem parts_both (c d : Int) (w : World) (h1 : c < 0) (h2 : 0 < d) :
   Calls Try.prog 63 #[.agg #[.int .i64 c, .int .i64 d]] w (PartsOut [(c, -1), (1, d)] w) := by
 obtain ⟨i0, hi, hz0, hz1, hz2⟩ := info_parts info_range
 go_enter Try.func63, Try.ntmps63
 go_wp2_with (at_builtin; refine wpList_append_lies _ rfl (.tmp 7) (.tmp 14) 94 rfl w.heap.size 23 i0 _ 2 16 Try.underlying94 hi hz0 hz1 hz2 rfl (by omega) _ 0 [] rfl (World.ownsRow_nil _ _ _ _) ⟨_, 0, none⟩ 1 1 [.int .i64 c, .int .i64 (-1)] rfl rfl ?c1 ?c2 (by omega) (by unfold maxLen; omega) (by omega) ?c3 _ rfl ?_)
 case c1 =>
   intro j u hj
   match j, hj with
   | 0, hj => simp at hj; subst hj; simp [Addr.add]
   | 1, hj => simp at hj; subst hj; simp [Addr.add]
 case c2 =>
   intro u hu
   simp at hu
   rcases hu with rfl | rfl <;> rfl
 case c3 => simp; try omega
 intro g1 cap1 w1 hown1 hgrow1 hat1 hlt1
 have hb1 : Below w.heap.size w w1 := below_grown (((Below.refl _ _).alloc (Nat.le_refl _) _).alloc (by simp) _) hgrow1 (by simp [Value.ownBlock]) (by simp; omega)
 have a0 : w1.cell? ⟨w.heap.size, 0, none⟩ = some (.int .i64 c) := by rw [hgrow1.cell_far _ (by simp; try omega) (by simp [Value.ownBlock])]; go_simp
 have a1 : w1.cell? ⟨w.heap.size, 1, none⟩ = some (.int .i64 d) := by rw [hgrow1.cell_far _ (by simp; try omega) (by simp [Value.ownBlock])]; go_simp
 clear hgrow1 hat1
 have s1 := hb1.size
 go_wp2_with (at_builtin; refine wpList_append_lies _ rfl (.tmp 19) (.tmp 26) 94 rfl w.heap.size 23 i0 _ 2 16 Try.underlying94 hi hz0 hz1 hz2 rfl (by omega) _ 1 [.int .i64 c, .int .i64 (-1)] rfl (hown1.alloc _) ⟨_, 0, none⟩ 1 1 [.int .i64 1, .int .i64 d] rfl rfl ?c1 ?c2 (by omega) (by unfold maxLen; omega) (by omega) ?c3 _ rfl ?_)
 case c1 =>
   intro j u hj
   match j, hj with
   | 0, hj => simp at hj; subst hj; simp [Addr.add]
   | 1, hj => simp at hj; subst hj; simp [Addr.add]
 case c2 =>
   intro u hu
   simp at hu
   rcases hu with rfl | rfl <;> rfl
 case c3 => simp; try omega
 intro g2 cap2 w2 hown2 hgrow2 hat2 hlt2
 have hb2 : Below w.heap.size w w2 := below_grown (hb1.alloc (by omega) _) hgrow2 (fun k hk => (hown1.lt k hk).1) (by simp; omega)
 clear hgrow2 hat2
 go_wp2
 go_ret
 exact ⟨_, rfl, hown2, hb2⟩
end Go.Proofs.Ytgkhldbnljdeiaa
namespace Go.Proofs.Ytgkhldbnljdeiaa
open Go.RowKit RangesMath
theorem info_pair : (Try.prog.info? 44).map (fun i => (i.zero, i.size, i.bytes)) = some (some (.agg #[.int .i64 0, .int .i64 0, .int .i64 0, .int .i64 0]), 4, 32) := by kernel_rfl
/-- The variables of divided: the range a, the result, and x in the block nx. -/
structure DivIn (w wx : World) (a b : Int) (nx : Nat) (x y : Int) (s t u : Bool) : Prop where
 a0 : wx.cell? ⟨w.heap.size, 0, none⟩ = some (.int .i64 a)
 a1 : wx.cell? ⟨w.heap.size, 1, none⟩ = some (.int .i64 b)
 r0 : wx.cell? ⟨w.heap.size + 1 + 1, 0, none⟩ = some (.int .i64 0)
 r1 : wx.cell? ⟨w.heap.size + 1 + 1, 1, none⟩ = some (.int .i64 0)
 r2 : wx.cell? ⟨w.heap.size + 1 + 1, 2, none⟩ = some (.bool false)
 r3 : wx.cell? ⟨w.heap.size + 1 + 1, 3, none⟩ = some (.bool false)
 r4 : wx.cell? ⟨w.heap.size + 1 + 1, 4, none⟩ = some (.bool false)
 x0 : wx.cell? ⟨nx, 0, none⟩ = some (.int .i64 x)
 x1 : wx.cell? ⟨nx, 1, none⟩ = some (.int .i64 y)
 x2 : wx.cell? ⟨nx, 2, none⟩ = some (.bool s)
 x3 : wx.cell? ⟨nx, 3, none⟩ = some (.bool t)
 x4 : wx.cell? ⟨nx, 4, none⟩ = some (.bool u)
 fr0 : wx.frozen? ⟨w.heap.size + 1 + 1, 0, none⟩ = false
 fr1 : wx.frozen? ⟨w.heap.size + 1 + 1, 1, none⟩ = false
 fr2 : wx.frozen? ⟨w.heap.size + 1 + 1, 2, none⟩ = false
 fr3 : wx.frozen? ⟨w.heap.size + 1 + 1, 3, none⟩ = false
 fr4 : wx.frozen? ⟨w.heap.size + 1 + 1, 4, none⟩ = false
 fx0 : wx.frozen? ⟨nx, 0, none⟩ = false
 fx1 : wx.frozen? ⟨nx, 1, none⟩ = false
 fx2 : wx.frozen? ⟨nx, 2, none⟩ = false
 s0 : w.heap.size < wx.heap.size
 s2 : w.heap.size + 1 + 1 < wx.heap.size
 nr : w.heap.size + 1 + 1 < nx
 sx : nx < wx.heap.size
 bl : Below w.heap.size w wx
theorem DivIn.later {w wx wy : World} {a b x y : Int} {nx : Nat} {s t u : Bool} (h : DivIn w wx a b nx x y s t u) (hb : Below wx.heap.size wx wy) : DivIn w wy a b nx x y s t u :=
 ⟨cell_later hb h.a0, cell_later hb h.a1, cell_later hb h.r0, cell_later hb h.r1, cell_later hb h.r2, cell_later hb h.r3, cell_later hb h.r4, cell_later hb h.x0, cell_later hb h.x1, cell_later hb h.x2, cell_later hb h.x3, cell_later hb h.x4,
  keepFr hb h.s2 h.fr0, keepFr hb h.s2 h.fr1, keepFr hb h.s2 h.fr2, keepFr hb h.s2 h.fr3, keepFr hb h.s2 h.fr4, keepFr hb h.sx h.fx0, keepFr hb h.sx h.fx1, keepFr hb h.sx h.fx2,
  Nat.lt_of_lt_of_le h.s0 hb.size, Nat.lt_of_lt_of_le h.s2 hb.size, h.nr, Nat.lt_of_lt_of_le h.sx hb.size, h.bl.trans (hb.mono (Nat.le_of_lt h.s0))⟩
/-- Only memory from B on has been written: the variables are as they were. -/
theorem DivIn.upto {w wx wy : World} {B : Nat} {a b x y : Int} {nx : Nat} {s t u : Bool} (h : DivIn w wx a b nx x y s t u) (hB : B = wx.heap.size) (hb : Below B wx wy) : DivIn w wy a b nx x y s t u := h.later (hB ▸ hb)
theorem DivIn.some {w wx : World} {a b x y : Int} {nx : Nat} {s t u : Bool} (h : DivIn w wx a b nx x y s t u) : DivIn w (wx.setCell ⟨nx, 2, none⟩ (.bool true)) a b nx x y true t u := by
 obtain ⟨a0, a1, r0, r1, r2, r3, r4, x0, x1, x2, x3, x4, fr0, fr1, fr2, fr3, fr4, fx0, fx1, fx2, s0, s2, nr, sx, bl⟩ := h
 have n0 : ¬ nx = w.heap.size := by omega
 have n2 : ¬ nx = w.heap.size + 1 + 1 := by omega
 exact ⟨by go_simp, by go_simp, by go_simp, by go_simp, by go_simp, by go_simp, by go_simp, by go_simp, by go_simp, by go_simp, by go_simp, by go_simp, by go_simp, by go_simp, by go_simp, by go_simp, by go_simp, by go_simp, by go_simp, by go_simp, by simpa [World.setCell] using s0, by simpa [World.setCell] using s2, nr, by simpa [World.setCell] using sx, bl.setCell (by simp; omega) _⟩
/-- The pairs that one part of the divisor gives. -/
def pairsOf (a b : Int) (U : Bool) (p : Int × Int) : List Pr :=
 if U = false ∨ 0 < p.2 then [⟨a, b, p.1, p.2⟩] else (if p.1 < -1 then [⟨a, b, p.1, -2⟩] else []) ++ (if least < b then [⟨least + 1, b, -1, -1⟩] else [])
def pairsTo (a b : Int) (U : Bool) (l : List (Int × Int)) (k : Nat) : List Pr := (l.take k).flatMap (pairsOf a b U)
theorem pairsTo_step (a b : Int) (U : Bool) (l : List (Int × Int)) (k : Nat) (h : k < l.length) : pairsTo a b U l (k + 1) = pairsTo a b U l k ++ pairsOf a b U (l[k]'h) := by
 unfold pairsTo
 rw [List.take_succ_eq_append_getElem h, List.flatMap_append]
 simp
theorem pairsOf_len (a b : Int) (U : Bool) (p : Int × Int) : (pairsOf a b U p).length ≤ 2 := by
 unfold pairsOf
 split
 · simp
 · split <;> split <;> simp
theorem pairsTo_len (a b : Int) (U : Bool) (l : List (Int × Int)) (k : Nat) : (pairsTo a b U l k).length ≤ 2 * k := by
 induction k with
 | zero => simp [pairsTo]
 | succ k ih =>
   by_cases h : k < l.length
   · rw [pairsTo_step a b U l k h, List.length_append]
     have := pairsOf_len a b U (l[k]'h)
     omega
   · unfold pairsTo at *
     rw [List.take_of_length_le (by omega)]
     rw [List.take_of_length_le (by omega)] at ih
     omega
def partsS (c d : Int) : List (Int × Int) := (if c < 0 then [(c, min d (-1))] else []) ++ (if 0 < d then [(max c 1, d)] else [])
theorem pairs_all (k a b c d : Int) (ha : least ≤ a) : pairsTo a b (undefB k a c d) (partsS c d) (partsS c d).length = pairsS k a b c d := by
 unfold pairsTo
 rw [List.take_length]
 unfold partsS pairsS
 rw [List.flatMap_append]
 congr 1
 · by_cases hc : c < 0
   · rw [if_pos hc, if_pos hc]
     simp only [List.flatMap_cons, List.flatMap_nil, List.append_nil]
     unfold pairsOf
     by_cases hu : undefB k a c d = true
     · have h1 : -1 ≤ d ∧ c ≤ -1 := by simp [undefB] at hu; omega
       rw [if_neg (by simp [hu]; omega), if_pos hu]
     · simp only [Bool.not_eq_true] at hu
       rw [if_pos (Or.inl hu), if_neg (by simp [hu])]
   · rw [if_neg hc, if_neg hc]; rfl
 · by_cases hd : 0 < d
   · rw [if_pos hd, if_pos hd]
     simp only [List.flatMap_cons, List.flatMap_nil, List.append_nil]
     unfold pairsOf
     rw [if_pos (Or.inr hd)]
   · rw [if_neg hd, if_neg hd]; rfl
/-- The cells of a row of pairs. -/
def flat4 (l : List Pr) : List Value := l.flatMap fun p => [.int .i64 p.a, .int .i64 p.b, .int .i64 p.c, .int .i64 p.d]
theorem flat2_at (l : List (Int × Int)) (k : Nat) (h : k < l.length) : (flat2 l)[k * 2]? = some (.int .i64 (l[k]'h).1) ∧ (flat2 l)[k * 2 + 1]? = some (.int .i64 (l[k]'h).2) := by
 induction l generalizing k with
 | nil => simp at h
 | cons p l ih =>
   cases k with
   | zero => simp [flat2]
   | succ k =>
     have := ih k (by simpa using h)
     have e : (k + 1) * 2 = k * 2 + 1 + 1 := by omega
     rw [e]
     simpa [flat2] using this
theorem flat4_at (l : List Pr) (k : Nat) (h : k < l.length) : (flat4 l)[k * 4]? = some (.int .i64 (l[k]'h).a) ∧ (flat4 l)[k * 4 + 1]? = some (.int .i64 (l[k]'h).b) ∧ (flat4 l)[k * 4 + 2]? = some (.int .i64 (l[k]'h).c) ∧ (flat4 l)[k * 4 + 3]? = some (.int .i64 (l[k]'h).d) := by
 induction l generalizing k with
 | nil => simp at h
 | cons p l ih =>
   cases k with
   | zero => simp [flat4]
   | succ k =>
     have := ih k (by simpa using h)
     have e : (k + 1) * 4 = k * 4 + 1 + 1 + 1 + 1 := by omega
     rw [e]
     simpa [flat4] using this
theorem flat4_append (l m : List Pr) : flat4 (l ++ m) = flat4 l ++ flat4 m := by simp [flat4]
/-- What an owned row looks like: its value, and its cells. -/
theorem owns_form {w : World} {base e size n : Nat} {v : Value} {xs : List Value} (h : w.ownsRow base e size v n xs) :
   ∃ (o : Option Addr) (cap : Nat), v = .slice o n cap ∧ n ≤ cap ∧ (n = 0 ∧ o = none ∨ ∃ g, o = some ⟨g, 0, none⟩ ∧ base ≤ g ∧ g < w.heap.size ∧ ∀ i u, xs[i]? = some u → w.cell? ⟨g, i, none⟩ = some u) := by
 rcases h with ⟨hl, h⟩
 rcases h with ⟨rfl, rfl⟩ | ⟨g, cap, cur, rfl, hb, hg, hn, hc, hs, hx⟩
 · exact ⟨none, 0, rfl, Nat.le_refl _, .inl ⟨rfl, rfl⟩⟩
 · refine ⟨_, cap, rfl, hn, .inr ⟨g, rfl, hb, ?_, ?_⟩⟩
   · rcases Nat.lt_or_ge g w.heap.size with hlt | hge
     · exact hlt
     · simp [Array.getElem?_eq_none hge] at hg
   · intro i u hu
     rw [cell_of_row w g i cur e (0, 0) hg]
     rw [← hx] at hu
     rw [List.getElem?_take] at hu
     split at hu
     · simpa using hu
     · simp at hu
end Go.Proofs.Ytgkhldbnljdeiaa
namespace Go.Proofs.Ytgkhldbnljdeiaa
open Go.RowKit RangesMath
theorem at_below {B : Nat} {w w' : World} {g i : Nat} {v : Value} (hb : Below B w w') (hl : g < B) (h : w.cell? ⟨g, i, none⟩ = some v) : w'.cell? ⟨g, i, none⟩ = some v := (hb.cell (p := ⟨g, i, none⟩) hl).trans h
/-- The variables of divided ahead of x. -/
structure DivPre (w wx : World) (a b c d : Int) : Prop where
 a0 : wx.cell? ⟨w.heap.size, 0, none⟩ = some (.int .i64 a)
 a1 : wx.cell? ⟨w.heap.size, 1, none⟩ = some (.int .i64 b)
 b0 : wx.cell? ⟨w.heap.size + 1, 0, none⟩ = some (.int .i64 c)
 b1 : wx.cell? ⟨w.heap.size + 1, 1, none⟩ = some (.int .i64 d)
 r0 : wx.cell? ⟨w.heap.size + 1 + 1, 0, none⟩ = some (.int .i64 0)
 r1 : wx.cell? ⟨w.heap.size + 1 + 1, 1, none⟩ = some (.int .i64 0)
 r2 : wx.cell? ⟨w.heap.size + 1 + 1, 2, none⟩ = some (.bool false)
 r3 : wx.cell? ⟨w.heap.size + 1 + 1, 3, none⟩ = some (.bool false)
 r4 : wx.cell? ⟨w.heap.size + 1 + 1, 4, none⟩ = some (.bool false)
 fr0 : wx.frozen? ⟨w.heap.size + 1 + 1, 0, none⟩ = false
 fr1 : wx.frozen? ⟨w.heap.size + 1 + 1, 1, none⟩ = false
 fr2 : wx.frozen? ⟨w.heap.size + 1 + 1, 2, none⟩ = false
 fr3 : wx.frozen? ⟨w.heap.size + 1 + 1, 3, none⟩ = false
 fr4 : wx.frozen? ⟨w.heap.size + 1 + 1, 4, none⟩ = false
 s0 : w.heap.size < wx.heap.size
 s1 : w.heap.size + 1 < wx.heap.size
 s2 : w.heap.size + 1 + 1 < wx.heap.size
 bl : Below w.heap.size w wx
theorem DivPre.later {w wx wy : World} {a b c d : Int} (h : DivPre w wx a b c d) (hb : Below wx.heap.size wx wy) : DivPre w wy a b c d :=
 ⟨cell_later hb h.a0, cell_later hb h.a1, cell_later hb h.b0, cell_later hb h.b1, cell_later hb h.r0, cell_later hb h.r1, cell_later hb h.r2, cell_later hb h.r3, cell_later hb h.r4,
  keepFr hb h.s2 h.fr0, keepFr hb h.s2 h.fr1, keepFr hb h.s2 h.fr2, keepFr hb h.s2 h.fr3, keepFr hb h.s2 h.fr4,
  Nat.lt_of_lt_of_le h.s0 hb.size, Nat.lt_of_lt_of_le h.s1 hb.size, Nat.lt_of_lt_of_le h.s2 hb.size, h.bl.trans (hb.mono (Nat.le_of_lt h.s0))⟩
theorem divPre (w : World) (a b c d : Int) : DivPre w (((w.alloc (.cells #[.int .i64 a, .int .i64 b] 23)).alloc (.cells #[.int .i64 c, .int .i64 d] 23)).alloc (.cells #[.int .i64 0, .int .i64 0, .bool false, .bool false, .bool false] 37)) a b c d :=
 ⟨by go_simp, by go_simp, by go_simp, by go_simp, by go_simp, by go_simp, by go_simp, by go_simp, by go_simp, by go_simp, by go_simp, by go_simp, by go_simp, by go_simp, by (simp; try omega), by (simp; try omega), by (simp; try omega), (((Below.refl _ _).alloc (Nat.le_refl _) _).alloc (by simp) _).alloc (by simp; omega) _⟩
theorem DivPre.make {w wx : World} {a b c d : Int} (h : DivPre w wx a b c d) (T U : Bool) : DivIn w (wx.alloc (.cells #[.int .i64 0, .int .i64 0, .bool false, .bool T, .bool U] 37)) a b wx.heap.size 0 0 false T U := by
 obtain ⟨a0, a1, b0, b1, r0, r1, r2, r3, r4, fr0, fr1, fr2, fr3, fr4, s0, s1, s2, bl⟩ := h
 exact ⟨by go_simp, by go_simp, by go_simp, by go_simp, by go_simp, by go_simp, by go_simp, by go_simp, by go_simp, by go_simp, by go_simp, by go_simp, by go_simp, by go_simp, by go_simp, by go_simp, by go_simp, by go_simp, by go_simp, by go_simp, by (simp; try omega), by (simp; try omega), s2, by simp, bl.alloc (by omega) _⟩
/-- A span in the block g. -/
structure SpanIn (g : Nat) (wx : World) (x y : Int) : Prop where
 c0 : wx.cell? ⟨g, 0, none⟩ = some (.int .i64 x)
 c1 : wx.cell? ⟨g, 1, none⟩ = some (.int .i64 y)
 c2 : wx.cell? ⟨g, 2, none⟩ = some (.bool false)
 f0 : wx.frozen? ⟨g, 0, none⟩ = false
 f1 : wx.frozen? ⟨g, 1, none⟩ = false
 f2 : wx.frozen? ⟨g, 2, none⟩ = false
 sz : g < wx.heap.size
theorem SpanIn.later {g : Nat} {wx wy : World} {x y : Int} (h : SpanIn g wx x y) (hb : Below wx.heap.size wx wy) : SpanIn g wy x y :=
 ⟨cell_later hb h.c0, cell_later hb h.c1, cell_later hb h.c2, keepFr hb h.sz h.f0, keepFr hb h.sz h.f1, keepFr hb h.sz h.f2, Nat.lt_of_lt_of_le h.sz hb.size⟩
theorem spanIn (w : World) (x y : Int) : SpanIn w.heap.size (w.alloc (.cells #[.int .i64 x, .int .i64 y, .bool false] 69)) x y :=
 ⟨by go_simp, by go_simp, by go_simp, by go_simp, by go_simp, by go_simp, by simp⟩
theorem SpanIn.far {g n : Nat} {wx : World} {x y : Int} (h : SpanIn g wx x y) (hn : ¬ n = g) (a b : Value) : SpanIn g ((wx.setCell ⟨n, 0, none⟩ a).setCell ⟨n, 1, none⟩ b) x y := by
 obtain ⟨c0, c1, c2, f0, f1, f2, sz⟩ := h
 exact ⟨by go_simp, by go_simp, by go_simp, by go_simp, by go_simp, by go_simp, by simpa [World.setCell] using sz⟩
theorem SpanIn.set {g : Nat} {wx : World} {x y : Int} (h : SpanIn g wx x y) (x' y' : Int) : SpanIn g ((wx.setCell ⟨g, 0, none⟩ (.int .i64 x')).setCell ⟨g, 1, none⟩ (.int .i64 y')) x' y' := by
 obtain ⟨c0, c1, c2, f0, f1, f2, sz⟩ := h
 exact ⟨by go_simp, by go_simp, by go_simp, by go_simp, by go_simp, by go_simp, by simpa [World.setCell] using sz⟩
theorem hull_snoc (l : List Pr) (p : Pr) (h : l ≠ []) : hullLo (l ++ [p]) = min (hullLo l) p.lo ∧ hullHi (l ++ [p]) = max (hullHi l) p.hi := by
 induction l with
 | nil => exact absurd rfl h
 | cons x l ih =>
   cases l with
   | nil => exact ⟨rfl, rfl⟩
   | cons q l =>
     have e := ih (by simp)
     constructor
     · show min x.lo (hullLo ((q :: l) ++ [p])) = min (min x.lo (hullLo (q :: l))) p.lo
       rw [e.1]; omega
     · show max x.hi (hullHi ((q :: l) ++ [p])) = max (max x.hi (hullHi (q :: l))) p.hi
       rw [e.2]; omega
theorem hull_take (q : List Pr) (m : Nat) (h : m < q.length) (hm : 0 < m) : hullLo (q.take (m + 1)) = min (hullLo (q.take m)) (q[m]'h).lo ∧ hullHi (q.take (m + 1)) = max (hullHi (q.take m)) (q[m]'h).hi := by
 rw [List.take_succ_eq_append_getElem h]
 refine hull_snoc _ _ fun e => ?_
 rcases List.take_eq_nil_iff.1 e with e | e
 · omega
 · subst e; simp at h
theorem hull_one (q : List Pr) (h : 0 < q.length) : hullLo (q.take 1) = (q[0]'h).lo ∧ hullHi (q.take 1) = (q[0]'h).hi := by
 cases q with
 | nil => simp at h
 | cons x l => exact ⟨rfl, rfl⟩
theorem hull_next (q : List Pr) (m : Nat) (h : m < q.length) : hullLo (q.take (m + 1)) = (if m = 0 then (q[m]'h).lo else min (hullLo (q.take m)) (q[m]'h).lo) ∧ hullHi (q.take (m + 1)) = (if m = 0 then (q[m]'h).hi else max (hullHi (q.take m)) (q[m]'h).hi) := by
 by_cases hm : m = 0
 · subst hm; simpa using hull_one q h
 · rw [if_neg hm, if_neg hm]; exact hull_take q m h (by omega)
/-- The two calls of add in a round of the second loop. -/
theorem add_two (m : Nat) (l h L H l' h' : Int) (hl : l' = if m = 0 then L else min l L) (hh : h' = if m = 0 then H else max h H) (hLH : L ≤ H) :
   ∃ (Bm : Bool) (u v : Int), ((m : Int) == 0) = Bm ∧
     (∀ w, Hid (Calls Try.prog 57 #[.agg #[.int .i64 l, .int .i64 h, .bool false], .int .i64 L, .bool false, .bool Bm] w fun e w' => e = .returned (.agg #[.int .i64 u, .int .i64 v, .bool false]) ∧ Below w.heap.size w w')) ∧
     (∀ w, Hid (Calls Try.prog 57 #[.agg #[.int .i64 u, .int .i64 v, .bool false], .int .i64 H, .bool false, .bool false] w fun e w' => e = .returned (.agg #[.int .i64 l', .int .i64 h', .bool false]) ∧ Below w.heap.size w w')) := by
 by_cases hm : m = 0
 · rw [if_pos hm] at hl hh
   refine ⟨true, L, L, by simp [hm], fun w => Lib.hid (add_first l h L false false w), fun w => Lib.hid ?_⟩
   have := add_more L L H false false w
   rw [show min L H = l' by omega, show max L H = h' by omega] at this
   exact this
 · rw [if_neg hm] at hl hh
   refine ⟨false, min l L, max h L, by simpa using hm, fun w => Lib.hid (add_more l h L false false w), fun w => Lib.hid ?_⟩
   have := add_more (min l L) (max h L) H false false w
   rw [show min (min l L) H = l' by omega, show max (max h L) H = h' by omega] at this
   exact this
end Go.Proofs.Ytgkhldbnljdeiaa
