/- RngZ7, RngZ8. -/
import Derived.Test.YtgkhldbnljdeiaaPutRules
import Derived.Test.YtgkhldbnljdeiaaQRngZ4ToRngZ6
set_option maxRecDepth 100000
set_option maxHeartbeats 4000000
set_option linter.unusedSimpArgs false
set_option linter.unusedVariables false
namespace Go.Proofs.Ytgkhldbnljdeiaa
open Go.RowKit RangesMath
attribute [local go_sem] World.setCell_self
attribute [local go_sem ↓] Go.wp_at_zero Go.wp_at_succ
theorem info_rpair : (Try.prog.info? 122).map (fun i => (i.zero, i.size, i.bytes)) = some (some (.agg #[.int .i64 0, .int .i64 0, .int .i64 0, .int .i64 0]), 4, 32) := by kernel_rfl
def optS (s m : Bool) (p : Pr) : List Pr := if s && m then [p] else []
/-- A slice of pairs that the call has made. -/
def PairsOut (l : List Pr) (w : World) (e : Ending) (w' : World) : Prop := ∃ v, e = .returned v ∧ w'.ownsRow w.heap.size 122 4 v l.length (flat4 l) ∧ Below w.heap.size w w'
/-- common of these two ranges. -/
def Com (a b c d x y : Int) (s : Bool) : Prop := ∀ w, Hid (Calls Try.prog 32 #[.agg #[.int .i64 a, .int .i64 b], .agg #[.int .i64 c, .int .i64 d]] w fun e w' => e = .returned (.tuple #[.agg #[.int .i64 x, .int .i64 y], .bool s]) ∧ Below w.heap.size w w')
theorem owns_base {w : World} {base base' e size n : Nat} {v : Value} {xs : List Value} (h : w.ownsRow base e size v n xs) (hb : base' ≤ base) : w.ownsRow base' e size v n xs := by
 obtain ⟨hl, h⟩ := h
 refine ⟨hl, ?_⟩
 rcases h with h | ⟨g, cap, cur, rfl, hb', r⟩
 · exact .inl h
 · exact .inr ⟨g, cap, cur, rfl, Nat.le_trans hb hb', r⟩
theorem pdivisible_walk (a b c d x0 y0 u0 v0 x1 y1 u1 v1 x2 y2 u2 v2 : Int) (s0 m0 s1 m1 s2 m2 : Bool) (w : World)
   (A0 : Com a b (-9223372036854775808) 9223372036854775807 x0 y0 s0) (B0 : Com c d (-9223372036854775808) (-2) u0 v0 m0)
   (A1 : Com a b (-9223372036854775807) 9223372036854775807 x1 y1 s1) (B1 : Com c d (-1) (-1) u1 v1 m1)
   (A2 : Com a b (-9223372036854775808) 9223372036854775807 x2 y2 s2) (B2 : Com c d 1 9223372036854775807 u2 v2 m2)
   : Calls Try.prog 95 #[.agg #[.int .i64 a, .int .i64 b], .agg #[.int .i64 c, .int .i64 d]] w (PairsOut (optS s0 m0 ⟨x0, y0, u0, v0⟩ ++ optS s1 m1 ⟨x1, y1, u1, v1⟩ ++ optS s2 m2 ⟨x2, y2, u2, v2⟩) w) := by
 obtain ⟨i0, hi, hz0, hz1, hz2⟩ := info_parts info_rpair
 have A0 := Lib.hid A0
 have A1 := Lib.hid A1
 have A2 := Lib.hid A2
 have B0 := Lib.hid B0
 have B1 := Lib.hid B1
 have B2 := Lib.hid B2
 go_enter Try.func95, Try.ntmps95
 go_wp2_with fail
 have a0 : (((w.alloc (.cells #[.int .i64 a, .int .i64 b] 23)).alloc (.cells #[.int .i64 c, .int .i64 d] 23)).alloc (.cells #[.int .i64 (-9223372036854775808), .int .i64 9223372036854775807] 23)).cell? ⟨w.heap.size, 0, none⟩ = some (.int .i64 a) := by go_simp
 have a1 : (((w.alloc (.cells #[.int .i64 a, .int .i64 b] 23)).alloc (.cells #[.int .i64 c, .int .i64 d] 23)).alloc (.cells #[.int .i64 (-9223372036854775808), .int .i64 9223372036854775807] 23)).cell? ⟨w.heap.size, 1, none⟩ = some (.int .i64 b) := by go_simp
 have c0 : (((w.alloc (.cells #[.int .i64 a, .int .i64 b] 23)).alloc (.cells #[.int .i64 c, .int .i64 d] 23)).alloc (.cells #[.int .i64 (-9223372036854775808), .int .i64 9223372036854775807] 23)).cell? ⟨w.heap.size + 1, 0, none⟩ = some (.int .i64 c) := by go_simp
 have c1 : (((w.alloc (.cells #[.int .i64 a, .int .i64 b] 23)).alloc (.cells #[.int .i64 c, .int .i64 d] 23)).alloc (.cells #[.int .i64 (-9223372036854775808), .int .i64 9223372036854775807] 23)).cell? ⟨w.heap.size + 1, 1, none⟩ = some (.int .i64 d) := by go_simp
 have sz : (((w.alloc (.cells #[.int .i64 a, .int .i64 b] 23)).alloc (.cells #[.int .i64 c, .int .i64 d] 23)).alloc (.cells #[.int .i64 (-9223372036854775808), .int .i64 9223372036854775807] 23)).heap.size = w.heap.size + 1 + 1 + 1 := by simp
 have bl : Below w.heap.size w (((w.alloc (.cells #[.int .i64 a, .int .i64 b] 23)).alloc (.cells #[.int .i64 c, .int .i64 d] 23)).alloc (.cells #[.int .i64 (-9223372036854775808), .int .i64 9223372036854775807] 23)) := (((Below.refl _ _).alloc (Nat.le_refl _) _).alloc (by simp) _).alloc (by simp; omega) _
 generalize (((w.alloc (.cells #[.int .i64 a, .int .i64 b] 23)).alloc (.cells #[.int .i64 c, .int .i64 d] 23)).alloc (.cells #[.int .i64 (-9223372036854775808), .int .i64 9223372036854775807] 23)) = W0 at *
 have HA := Lib.hid (And.intro a0 (And.intro a1 (And.intro c0 c1)))
 have BL := Lib.hid bl
 have g0 : w.heap.size < W0.heap.size := by omega
 have g1 : w.heap.size + 1 < W0.heap.size := by omega
 clear a0 a1 c0 c1 sz bl
 go_loopw [6, 24] (fun v i wr => (i = .int .i64 0 ∧ Below W0.heap.size W0 wr ∧ wr.ownsRow W0.heap.size 122 4 v (([] : List Pr)).length (flat4 ([]))) ∨ (i = .int .i64 1 ∧ Below W0.heap.size W0 wr ∧ wr.ownsRow W0.heap.size 122 4 v (optS s0 m0 ⟨x0, y0, u0, v0⟩).length (flat4 (optS s0 m0 ⟨x0, y0, u0, v0⟩))) ∨ (i = .int .i64 2 ∧ Below W0.heap.size W0 wr ∧ wr.ownsRow W0.heap.size 122 4 v (optS s0 m0 ⟨x0, y0, u0, v0⟩ ++ optS s1 m1 ⟨x1, y1, u1, v1⟩).length (flat4 (optS s0 m0 ⟨x0, y0, u0, v0⟩ ++ optS s1 m1 ⟨x1, y1, u1, v1⟩))) ∨ (i = .int .i64 3 ∧ Below W0.heap.size W0 wr ∧ wr.ownsRow W0.heap.size 122 4 v (optS s0 m0 ⟨x0, y0, u0, v0⟩ ++ optS s1 m1 ⟨x1, y1, u1, v1⟩ ++ optS s2 m2 ⟨x2, y2, u2, v2⟩).length (flat4 (optS s0 m0 ⟨x0, y0, u0, v0⟩ ++ optS s1 m1 ⟨x1, y1, u1, v1⟩ ++ optS s2 m2 ⟨x2, y2, u2, v2⟩)))) (fun _ i _ => (3 - intOf i).toNat)
 case atStart => exact .inl ⟨rfl, Below.refl _ _, World.ownsRow_nil _ _ _ _⟩
 case round =>
   rcases hrel with ⟨rfl, hb, ho⟩ | ⟨rfl, hb, ho⟩ | ⟨rfl, hb, ho⟩ | ⟨rfl, hb, ho⟩
   · have HB := Lib.hid hb
     have HO := Lib.hid ho
     have hsz := hb.size
     clear hb ho
     have hln : (([] : List Pr)).length ≤ 0 := by simp
     have HLN := Lib.hid (rfl : (([] : List Pr)).length = (([] : List Pr)).length)
     generalize hL : (([] : List Pr)) = L at *
     have HL := Lib.hid hL
     clear hL HLN
     have a0 := at_below HB.out g0 HA.out.1
     have a1 := at_below HB.out g0 HA.out.2.1
     have a0' : (wr.alloc (.cells #[.int .i64 (-9223372036854775808), .int .i64 9223372036854775807, .int .i64 (-9223372036854775808), .int .i64 (-2)] 122)).cell? ⟨w.heap.size, 0, none⟩ = some (.int .i64 a) := by rw [World.cell?_alloc_lt _ _ _ (World.block_lt_of_cell? _ _ a0)]; exact a0
     have a1' : (wr.alloc (.cells #[.int .i64 (-9223372036854775808), .int .i64 9223372036854775807, .int .i64 (-9223372036854775808), .int .i64 (-2)] 122)).cell? ⟨w.heap.size, 1, none⟩ = some (.int .i64 b) := by rw [World.cell?_alloc_lt _ _ _ (World.block_lt_of_cell? _ _ a1)]; exact a1
     have ix : ∀ w, (Instr.index 135 (.agg #[.int .i64 (-9223372036854775808), .int .i64 9223372036854775807, .int .i64 (-9223372036854775808), .int .i64 (-2), .int .i64 (-9223372036854775807), .int .i64 9223372036854775807, .int .i64 (-1), .int .i64 (-1), .int .i64 (-9223372036854775808), .int .i64 9223372036854775807, .int .i64 1, .int .i64 9223372036854775807]) (.int .i64 0)).run Try.prog w = .ok (.agg #[.int .i64 (-9223372036854775808), .int .i64 9223372036854775807, .int .i64 (-9223372036854775808), .int .i64 (-2)]) w := fun _ => by kernel_rfl
     go_wp2_with fail
     clear ix a0 a1 a0' a1'
     refine (A0.out _).out.mono ?_
     rintro e wa ⟨rfl, hA⟩
     have b9 : wr.heap.size < wa.heap.size := by have := hA.size; simp at this; omega
     have q2 : wa.cell? ⟨wr.heap.size, 2, none⟩ = some (.int .i64 (-9223372036854775808)) := cell_later hA (by go_simp)
     have q3 : wa.cell? ⟨wr.heap.size, 3, none⟩ = some (.int .i64 (-2)) := cell_later hA (by go_simp)
     have HBa := Lib.hid (HB.out.trans ((((Below.refl wr.heap.size wr).alloc (Nat.le_refl _) _).trans (hA.mono (by simp))).mono hsz))
     have HOa := Lib.hid (owns_later (HO.out.alloc _) hA)
     clear hA
     have c0 := at_below HBa.out g1 HA.out.2.2.1
     have c1 := at_below HBa.out g1 HA.out.2.2.2
     have c0' : (wa.alloc (.cells #[.int .i64 x0, .int .i64 y0] 23)).cell? ⟨w.heap.size + 1, 0, none⟩ = some (.int .i64 c) := by rw [World.cell?_alloc_lt _ _ _ (World.block_lt_of_cell? _ _ c0)]; exact c0
     have c1' : (wa.alloc (.cells #[.int .i64 x0, .int .i64 y0] 23)).cell? ⟨w.heap.size + 1, 1, none⟩ = some (.int .i64 d) := by rw [World.cell?_alloc_lt _ _ _ (World.block_lt_of_cell? _ _ c1)]; exact c1
     go_wp2_with fail
     clear c0 c1 c0' c1'
     refine (B0.out _).out.mono ?_
     rintro e wb ⟨rfl, hB⟩
     have z9 : wa.heap.size < wb.heap.size := by have := hB.size; simp at this; omega
     have x0' : wb.cell? ⟨wa.heap.size, 0, none⟩ = some (.int .i64 x0) := cell_later hB (by go_simp)
     have x1' : wb.cell? ⟨wa.heap.size, 1, none⟩ = some (.int .i64 y0) := cell_later hB (by go_simp)
     have y0' : (wb.alloc (.cells #[.int .i64 u0, .int .i64 v0] 23)).cell? ⟨wa.heap.size, 0, none⟩ = some (.int .i64 x0) := by rw [World.cell?_alloc_lt _ _ _ (World.block_lt_of_cell? _ _ x0')]; exact x0'
     have y1' : (wb.alloc (.cells #[.int .i64 u0, .int .i64 v0] 23)).cell? ⟨wa.heap.size, 1, none⟩ = some (.int .i64 y0) := by rw [World.cell?_alloc_lt _ _ _ (World.block_lt_of_cell? _ _ x1')]; exact x1'
     have hsa : W0.heap.size ≤ wa.heap.size := by omega
     have HBb := Lib.hid (HBa.out.trans ((((Below.refl wa.heap.size wa).alloc (Nat.le_refl _) _).trans (hB.mono (by simp))).mono hsa))
     have HOb := Lib.hid (owns_later (HOa.out.alloc _) hB)
     clear hB q2 q3 HBa HOa HB HO
     cases s0 with
     | false =>
       go_wp2_with fail
       go_roundw
       case rel => exact .inr (.inl ⟨rfl, HBb.out.alloc (by omega) _, by have := HOb.out.alloc (.cells #[.int .i64 u0, .int .i64 v0] 23); rw [← HL.out] at this; simpa [optS] using this⟩)
       case measure => simp [intOf]
     | true =>
       cases m0 with
       | false =>
         go_wp2_with fail
         go_roundw
         case rel => exact .inr (.inl ⟨rfl, HBb.out.alloc (by omega) _, by have := HOb.out.alloc (.cells #[.int .i64 u0, .int .i64 v0] 23); rw [← HL.out] at this; simpa [optS] using this⟩)
         case measure => simp [intOf]
       | true =>
         go_wp2_with (at_builtin; refine wpList_append_lies _ rfl (.tmp 45) (.tmp 49) 124 rfl W0.heap.size 122 i0 _ 4 32 Try.underlying124 hi hz0 hz1 hz2 rfl (by omega) _ _ _ rfl ((HOb.out.alloc _).alloc _) ⟨_, 0, none⟩ 1 1 [.int .i64 x0, .int .i64 y0, .int .i64 u0, .int .i64 v0] rfl rfl (World.news_of_block (by have := heap_alloc_new (wb.alloc (.cells #[.int .i64 u0, .int .i64 v0] 23)) (.cells #[.int .i64 x0, .int .i64 y0, .int .i64 u0, .int .i64 v0] 122); simpa using this)) (by intro u hu; simp at hu; rcases hu with rfl | rfl | rfl | rfl <;> rfl) (by omega) (by unfold maxLen; omega) (by omega) (by simp; omega) _ rfl ?_)
         intro g9 cap1 wc hown1 hgrow1 hat1 hlt1
         have HBc := Lib.hid (below_grown (((HBb.out.alloc (by omega) _).alloc (by simp; omega) _)) hgrow1 (fun k hk => (HOb.out.lt k hk).1) (by simp; omega))
         have HOc := Lib.hid hown1
         clear hown1 hgrow1 hat1 HBb HOb x0' x1' y0' y1'
         go_wp2_with fail
         go_roundw
         case rel => exact .inr (.inl ⟨rfl, HBc.out, by have := HOc.out; rw [← HL.out] at this ⊢; simpa [optS, flat4] using this⟩)
         case measure => simp [intOf]
   · have HB := Lib.hid hb
     have HO := Lib.hid ho
     have hsz := hb.size
     clear hb ho
     have hln : (optS s0 m0 ⟨x0, y0, u0, v0⟩).length ≤ 1 := by unfold optS; repeat (first | split | simp)
     have HLN := Lib.hid (rfl : (optS s0 m0 ⟨x0, y0, u0, v0⟩).length = (optS s0 m0 ⟨x0, y0, u0, v0⟩).length)
     generalize hL : (optS s0 m0 ⟨x0, y0, u0, v0⟩) = L at *
     have HL := Lib.hid hL
     clear hL HLN
     have a0 := at_below HB.out g0 HA.out.1
     have a1 := at_below HB.out g0 HA.out.2.1
     have a0' : (wr.alloc (.cells #[.int .i64 (-9223372036854775807), .int .i64 9223372036854775807, .int .i64 (-1), .int .i64 (-1)] 122)).cell? ⟨w.heap.size, 0, none⟩ = some (.int .i64 a) := by rw [World.cell?_alloc_lt _ _ _ (World.block_lt_of_cell? _ _ a0)]; exact a0
     have a1' : (wr.alloc (.cells #[.int .i64 (-9223372036854775807), .int .i64 9223372036854775807, .int .i64 (-1), .int .i64 (-1)] 122)).cell? ⟨w.heap.size, 1, none⟩ = some (.int .i64 b) := by rw [World.cell?_alloc_lt _ _ _ (World.block_lt_of_cell? _ _ a1)]; exact a1
     have ix : ∀ w, (Instr.index 135 (.agg #[.int .i64 (-9223372036854775808), .int .i64 9223372036854775807, .int .i64 (-9223372036854775808), .int .i64 (-2), .int .i64 (-9223372036854775807), .int .i64 9223372036854775807, .int .i64 (-1), .int .i64 (-1), .int .i64 (-9223372036854775808), .int .i64 9223372036854775807, .int .i64 1, .int .i64 9223372036854775807]) (.int .i64 1)).run Try.prog w = .ok (.agg #[.int .i64 (-9223372036854775807), .int .i64 9223372036854775807, .int .i64 (-1), .int .i64 (-1)]) w := fun _ => by kernel_rfl
     go_wp2_with fail
     clear ix a0 a1 a0' a1'
     refine (A1.out _).out.mono ?_
     rintro e wa ⟨rfl, hA⟩
     have b9 : wr.heap.size < wa.heap.size := by have := hA.size; simp at this; omega
     have q2 : wa.cell? ⟨wr.heap.size, 2, none⟩ = some (.int .i64 (-1)) := cell_later hA (by go_simp)
     have q3 : wa.cell? ⟨wr.heap.size, 3, none⟩ = some (.int .i64 (-1)) := cell_later hA (by go_simp)
     have HBa := Lib.hid (HB.out.trans ((((Below.refl wr.heap.size wr).alloc (Nat.le_refl _) _).trans (hA.mono (by simp))).mono hsz))
     have HOa := Lib.hid (owns_later (HO.out.alloc _) hA)
     clear hA
     have c0 := at_below HBa.out g1 HA.out.2.2.1
     have c1 := at_below HBa.out g1 HA.out.2.2.2
     have c0' : (wa.alloc (.cells #[.int .i64 x1, .int .i64 y1] 23)).cell? ⟨w.heap.size + 1, 0, none⟩ = some (.int .i64 c) := by rw [World.cell?_alloc_lt _ _ _ (World.block_lt_of_cell? _ _ c0)]; exact c0
     have c1' : (wa.alloc (.cells #[.int .i64 x1, .int .i64 y1] 23)).cell? ⟨w.heap.size + 1, 1, none⟩ = some (.int .i64 d) := by rw [World.cell?_alloc_lt _ _ _ (World.block_lt_of_cell? _ _ c1)]; exact c1
     go_wp2_with fail
     clear c0 c1 c0' c1'
     refine (B1.out _).out.mono ?_
     rintro e wb ⟨rfl, hB⟩
     have z9 : wa.heap.size < wb.heap.size := by have := hB.size; simp at this; omega
     have x0' : wb.cell? ⟨wa.heap.size, 0, none⟩ = some (.int .i64 x1) := cell_later hB (by go_simp)
     have x1' : wb.cell? ⟨wa.heap.size, 1, none⟩ = some (.int .i64 y1) := cell_later hB (by go_simp)
     have y0' : (wb.alloc (.cells #[.int .i64 u1, .int .i64 v1] 23)).cell? ⟨wa.heap.size, 0, none⟩ = some (.int .i64 x1) := by rw [World.cell?_alloc_lt _ _ _ (World.block_lt_of_cell? _ _ x0')]; exact x0'
     have y1' : (wb.alloc (.cells #[.int .i64 u1, .int .i64 v1] 23)).cell? ⟨wa.heap.size, 1, none⟩ = some (.int .i64 y1) := by rw [World.cell?_alloc_lt _ _ _ (World.block_lt_of_cell? _ _ x1')]; exact x1'
     have hsa : W0.heap.size ≤ wa.heap.size := by omega
     have HBb := Lib.hid (HBa.out.trans ((((Below.refl wa.heap.size wa).alloc (Nat.le_refl _) _).trans (hB.mono (by simp))).mono hsa))
     have HOb := Lib.hid (owns_later (HOa.out.alloc _) hB)
     clear hB q2 q3 HBa HOa HB HO
     cases s1 with
     | false =>
       go_wp2_with fail
       go_roundw
       case rel => exact .inr (.inr (.inl ⟨rfl, HBb.out.alloc (by omega) _, by have := HOb.out.alloc (.cells #[.int .i64 u1, .int .i64 v1] 23); simpa [optS] using this⟩))
       case measure => simp [intOf]
     | true =>
       cases m1 with
       | false =>
         go_wp2_with fail
         go_roundw
         case rel => exact .inr (.inr (.inl ⟨rfl, HBb.out.alloc (by omega) _, by have := HOb.out.alloc (.cells #[.int .i64 u1, .int .i64 v1] 23); simpa [optS] using this⟩))
         case measure => simp [intOf]
       | true =>
         go_wp2_with (at_builtin; refine wpList_append_lies _ rfl (.tmp 45) (.tmp 49) 124 rfl W0.heap.size 122 i0 _ 4 32 Try.underlying124 hi hz0 hz1 hz2 rfl (by omega) _ _ _ rfl ((HOb.out.alloc _).alloc _) ⟨_, 0, none⟩ 1 1 [.int .i64 x1, .int .i64 y1, .int .i64 u1, .int .i64 v1] rfl rfl (World.news_of_block (by have := heap_alloc_new (wb.alloc (.cells #[.int .i64 u1, .int .i64 v1] 23)) (.cells #[.int .i64 x1, .int .i64 y1, .int .i64 u1, .int .i64 v1] 122); simpa using this)) (by intro u hu; simp at hu; rcases hu with rfl | rfl | rfl | rfl <;> rfl) (by omega) (by unfold maxLen; omega) (by omega) (by simp; omega) _ rfl ?_)
         intro g9 cap1 wc hown1 hgrow1 hat1 hlt1
         have HBc := Lib.hid (below_grown (((HBb.out.alloc (by omega) _).alloc (by simp; omega) _)) hgrow1 (fun k hk => (HOb.out.lt k hk).1) (by simp; omega))
         have HOc := Lib.hid hown1
         clear hown1 hgrow1 hat1 HBb HOb x0' x1' y0' y1'
         go_wp2_with fail
         go_roundw
         case rel => exact .inr (.inr (.inl ⟨rfl, HBc.out, by have := HOc.out; simpa [optS, flat4] using this⟩))
         case measure => simp [intOf]
   · have HB := Lib.hid hb
     have HO := Lib.hid ho
     have hsz := hb.size
     clear hb ho
     have hln : (optS s0 m0 ⟨x0, y0, u0, v0⟩ ++ optS s1 m1 ⟨x1, y1, u1, v1⟩).length ≤ 2 := by unfold optS; split <;> split <;> simp
     have HLN := Lib.hid (rfl : (optS s0 m0 ⟨x0, y0, u0, v0⟩ ++ optS s1 m1 ⟨x1, y1, u1, v1⟩).length = (optS s0 m0 ⟨x0, y0, u0, v0⟩ ++ optS s1 m1 ⟨x1, y1, u1, v1⟩).length)
     generalize hL : (optS s0 m0 ⟨x0, y0, u0, v0⟩ ++ optS s1 m1 ⟨x1, y1, u1, v1⟩) = L at *
     have HL := Lib.hid hL
     clear hL HLN
     have a0 := at_below HB.out g0 HA.out.1
     have a1 := at_below HB.out g0 HA.out.2.1
     have a0' : (wr.alloc (.cells #[.int .i64 (-9223372036854775808), .int .i64 9223372036854775807, .int .i64 1, .int .i64 9223372036854775807] 122)).cell? ⟨w.heap.size, 0, none⟩ = some (.int .i64 a) := by rw [World.cell?_alloc_lt _ _ _ (World.block_lt_of_cell? _ _ a0)]; exact a0
     have a1' : (wr.alloc (.cells #[.int .i64 (-9223372036854775808), .int .i64 9223372036854775807, .int .i64 1, .int .i64 9223372036854775807] 122)).cell? ⟨w.heap.size, 1, none⟩ = some (.int .i64 b) := by rw [World.cell?_alloc_lt _ _ _ (World.block_lt_of_cell? _ _ a1)]; exact a1
     have ix : ∀ w, (Instr.index 135 (.agg #[.int .i64 (-9223372036854775808), .int .i64 9223372036854775807, .int .i64 (-9223372036854775808), .int .i64 (-2), .int .i64 (-9223372036854775807), .int .i64 9223372036854775807, .int .i64 (-1), .int .i64 (-1), .int .i64 (-9223372036854775808), .int .i64 9223372036854775807, .int .i64 1, .int .i64 9223372036854775807]) (.int .i64 2)).run Try.prog w = .ok (.agg #[.int .i64 (-9223372036854775808), .int .i64 9223372036854775807, .int .i64 1, .int .i64 9223372036854775807]) w := fun _ => by kernel_rfl
     go_wp2_with fail
     clear ix a0 a1 a0' a1'
     refine (A2.out _).out.mono ?_
     rintro e wa ⟨rfl, hA⟩
     have b9 : wr.heap.size < wa.heap.size := by have := hA.size; simp at this; omega
     have q2 : wa.cell? ⟨wr.heap.size, 2, none⟩ = some (.int .i64 1) := cell_later hA (by go_simp)
     have q3 : wa.cell? ⟨wr.heap.size, 3, none⟩ = some (.int .i64 9223372036854775807) := cell_later hA (by go_simp)
     have HBa := Lib.hid (HB.out.trans ((((Below.refl wr.heap.size wr).alloc (Nat.le_refl _) _).trans (hA.mono (by simp))).mono hsz))
     have HOa := Lib.hid (owns_later (HO.out.alloc _) hA)
     clear hA
     have c0 := at_below HBa.out g1 HA.out.2.2.1
     have c1 := at_below HBa.out g1 HA.out.2.2.2
     have c0' : (wa.alloc (.cells #[.int .i64 x2, .int .i64 y2] 23)).cell? ⟨w.heap.size + 1, 0, none⟩ = some (.int .i64 c) := by rw [World.cell?_alloc_lt _ _ _ (World.block_lt_of_cell? _ _ c0)]; exact c0
     have c1' : (wa.alloc (.cells #[.int .i64 x2, .int .i64 y2] 23)).cell? ⟨w.heap.size + 1, 1, none⟩ = some (.int .i64 d) := by rw [World.cell?_alloc_lt _ _ _ (World.block_lt_of_cell? _ _ c1)]; exact c1
     go_wp2_with fail
     clear c0 c1 c0' c1'
     refine (B2.out _).out.mono ?_
     rintro e wb ⟨rfl, hB⟩
     have z9 : wa.heap.size < wb.heap.size := by have := hB.size; simp at this; omega
     have x0' : wb.cell? ⟨wa.heap.size, 0, none⟩ = some (.int .i64 x2) := cell_later hB (by go_simp)
     have x1' : wb.cell? ⟨wa.heap.size, 1, none⟩ = some (.int .i64 y2) := cell_later hB (by go_simp)
     have y0' : (wb.alloc (.cells #[.int .i64 u2, .int .i64 v2] 23)).cell? ⟨wa.heap.size, 0, none⟩ = some (.int .i64 x2) := by rw [World.cell?_alloc_lt _ _ _ (World.block_lt_of_cell? _ _ x0')]; exact x0'
     have y1' : (wb.alloc (.cells #[.int .i64 u2, .int .i64 v2] 23)).cell? ⟨wa.heap.size, 1, none⟩ = some (.int .i64 y2) := by rw [World.cell?_alloc_lt _ _ _ (World.block_lt_of_cell? _ _ x1')]; exact x1'
     have hsa : W0.heap.size ≤ wa.heap.size := by omega
     have HBb := Lib.hid (HBa.out.trans ((((Below.refl wa.heap.size wa).alloc (Nat.le_refl _) _).trans (hB.mono (by simp))).mono hsa))
     have HOb := Lib.hid (owns_later (HOa.out.alloc _) hB)
     clear hB q2 q3 HBa HOa HB HO
     cases s2 with
     | false =>
       go_wp2_with fail
       go_roundw
       case rel => exact .inr (.inr (.inr (⟨rfl, HBb.out.alloc (by omega) _, by have := HOb.out.alloc (.cells #[.int .i64 u2, .int .i64 v2] 23); simpa [optS] using this⟩)))
       case measure => simp [intOf]
     | true =>
       cases m2 with
       | false =>
         go_wp2_with fail
         go_roundw
         case rel => exact .inr (.inr (.inr (⟨rfl, HBb.out.alloc (by omega) _, by have := HOb.out.alloc (.cells #[.int .i64 u2, .int .i64 v2] 23); simpa [optS] using this⟩)))
         case measure => simp [intOf]
       | true =>
         go_wp2_with (at_builtin; refine wpList_append_lies _ rfl (.tmp 45) (.tmp 49) 124 rfl W0.heap.size 122 i0 _ 4 32 Try.underlying124 hi hz0 hz1 hz2 rfl (by omega) _ _ _ rfl ((HOb.out.alloc _).alloc _) ⟨_, 0, none⟩ 1 1 [.int .i64 x2, .int .i64 y2, .int .i64 u2, .int .i64 v2] rfl rfl (World.news_of_block (by have := heap_alloc_new (wb.alloc (.cells #[.int .i64 u2, .int .i64 v2] 23)) (.cells #[.int .i64 x2, .int .i64 y2, .int .i64 u2, .int .i64 v2] 122); simpa using this)) (by intro u hu; simp at hu; rcases hu with rfl | rfl | rfl | rfl <;> rfl) (by omega) (by unfold maxLen; omega) (by omega) (by simp; omega) _ rfl ?_)
         intro g9 cap1 wc hown1 hgrow1 hat1 hlt1
         have HBc := Lib.hid (below_grown (((HBb.out.alloc (by omega) _).alloc (by simp; omega) _)) hgrow1 (fun k hk => (HOb.out.lt k hk).1) (by simp; omega))
         have HOc := Lib.hid hown1
         clear hown1 hgrow1 hat1 HBb HOb x0' x1' y0' y1'
         go_wp2_with fail
         go_roundw
         case rel => exact .inr (.inr (.inr (⟨rfl, HBc.out, by have := HOc.out; simpa [optS, flat4] using this⟩)))
         case measure => simp [intOf]
   · have HB := Lib.hid hb
     have HO := Lib.hid ho
     clear hb ho
     go_wp2
     go_ret
     exact ⟨_, rfl, owns_base HO.out (by omega), BL.out.trans (HB.out.mono (by omega))⟩
end Go.Proofs.Ytgkhldbnljdeiaa
namespace Go.Proofs.Ytgkhldbnljdeiaa
open Go.RowKit RangesMath
attribute [local go_sem] World.setCell_self
attribute [local go_sem ↓] Go.wp_at_zero Go.wp_at_succ
/-- divisible, and calculated over what it has made. -/
def DivCalc (k : Int) (f : Nat) (x y : Int) (s : Bool) (w : World) (e : Ending) (w' : World) : Prop := ∃ v, e = .returned v ∧ Below w.heap.size w w' ∧
 Calls Try.prog 90 #[.int .i64 k, .func (.func f) #[] #[], v] w' fun e2 w2 => e2 = .returned (.agg #[.int .i64 x, .int .i64 y, .bool s, .bool false, .bool false]) ∧ Below w'.heap.size w' w2
/-- A function of two ranges that returns an effect. -/
def EffFn (f : Nat) (args : Array Value) (x y : Int) (s t u : Bool) : Prop := ∀ w, Hid (Calls Try.prog f args w fun e w' => e = .returned (.agg #[.int .i64 x, .int .i64 y, .bool s, .bool t, .bool u]) ∧ Below w.heap.size w w')
theorem parith_2 (k a b c d x y : Int) (s t u : Bool) (kb : Nat) (w : World) (hkb : kb < w.heap.size) (hk : w.cell? ⟨kb, 0, none⟩ = some (.int .i64 k)) (D : ∀ w, Hid (Calls Try.prog 95 #[.agg #[.int .i64 a, .int .i64 b], .agg #[.int .i64 c, .int .i64 d]] w (DivCalc k 94 x y s w)))
   (P : EffFn 93 #[.agg #[.int .i64 a, .int .i64 b], .agg #[.int .i64 c, .int .i64 d], .agg #[.int .i64 x, .int .i64 y, .bool s, .bool false, .bool false]] x y s t u) :
   Calls Try.prog 92 #[.agg #[.int .i64 a, .int .i64 b], .agg #[.int .i64 c, .int .i64 d], .pointer (some ⟨kb, 0, none⟩)] w fun e w' => e = .returned (EffV x y s t u) ∧ Below w.heap.size w w' := by
 have hk3 : ∀ o1 o2 o3, (((w.alloc o1).alloc o2).alloc o3).cell? ⟨kb, 0, none⟩ = some (.int .i64 k) := by
   intro o1 o2 o3
   rw [((((Below.refl w.heap.size w).alloc (Nat.le_refl _) o1).alloc (by simp) o2).alloc (by simp; omega) o3).cell (p := ⟨kb, 0, none⟩) hkb]
   exact hk
 clear hk
 have P := Lib.hid P
 go_enter Try.func92, Try.ntmps92
 go_wp2_with fail
 have KI : Keeps (w.heap.size) [(kb, 0, .int .i64 k), (w.heap.size, 0, .int .i64 a), (w.heap.size, 1, .int .i64 b), (w.heap.size + 1, 0, .int .i64 c), (w.heap.size + 1, 1, .int .i64 d)] [(w.heap.size + 1 + 1, 0), (w.heap.size + 1 + 1, 1), (w.heap.size + 1 + 1, 2), (w.heap.size + 1 + 1, 3), (w.heap.size + 1 + 1, 4)] w (((w.alloc (.cells #[.int .i64 a, .int .i64 b] 23)).alloc (.cells #[.int .i64 c, .int .i64 d] 23)).alloc (.cells #[.int .i64 0, .int .i64 0, .bool false, .bool false, .bool false] 37)) := by
   refine ⟨?_, ?_, ?_, ?_, by simp; try omega, (((Below.refl _ _).alloc (Nat.le_refl _) _).alloc (by simp) _).alloc (by simp; omega) _⟩
   · simp only [fm, nm, false_imp_iff, implies_true, and_true]
     exact ⟨by go_simp, by go_simp, by go_simp, by go_simp, by go_simp⟩
   · simp only [fm, nm, false_imp_iff, implies_true, and_true]
     exact ⟨valAt_some (by go_simp), valAt_some (by go_simp), valAt_some (by go_simp), valAt_some (by go_simp), valAt_some (by go_simp)⟩
   · simp only [fm, nm, false_imp_iff, implies_true, and_true]
     exact ⟨by go_simp, by go_simp, by go_simp, by go_simp, by go_simp⟩
   · simp only [fm, nm, false_imp_iff, implies_true, and_true]
     exact ⟨by simp; try omega, by simp; try omega, by simp; try omega, by simp; try omega, by simp; try omega⟩
 have ID := KI.later (Below.refl _ _).drew
 clear KI hk3
 generalize (((w.alloc (.cells #[.int .i64 a, .int .i64 b] 23)).alloc (.cells #[.int .i64 c, .int .i64 d] 23)).alloc (.cells #[.int .i64 0, .int .i64 0, .bool false, .bool false, .bool false] 37)) = W at *
 refine wp_region_held_drew (S := fun w' => w'.cell? ⟨kb, 0, none⟩ = some (.int .i64 k) ∧ w'.cell? ⟨w.heap.size, 0, none⟩ = some (.int .i64 a) ∧ w'.cell? ⟨w.heap.size, 1, none⟩ = some (.int .i64 b) ∧ w'.cell? ⟨w.heap.size + 1, 0, none⟩ = some (.int .i64 c) ∧ w'.cell? ⟨w.heap.size + 1, 1, none⟩ = some (.int .i64 d) ∧ w'.cell? ⟨w.heap.size + 1 + 1, 0, none⟩ = some (valAt w' ⟨w.heap.size + 1 + 1, 0, none⟩) ∧ w'.cell? ⟨w.heap.size + 1 + 1, 1, none⟩ = some (valAt w' ⟨w.heap.size + 1 + 1, 1, none⟩) ∧ w'.cell? ⟨w.heap.size + 1 + 1, 2, none⟩ = some (valAt w' ⟨w.heap.size + 1 + 1, 2, none⟩) ∧ w'.cell? ⟨w.heap.size + 1 + 1, 3, none⟩ = some (valAt w' ⟨w.heap.size + 1 + 1, 3, none⟩) ∧ w'.cell? ⟨w.heap.size + 1 + 1, 4, none⟩ = some (valAt w' ⟨w.heap.size + 1 + 1, 4, none⟩) ∧ w'.frozen? ⟨w.heap.size + 1 + 1, 0, none⟩ = false ∧ w'.frozen? ⟨w.heap.size + 1 + 1, 1, none⟩ = false ∧ w'.frozen? ⟨w.heap.size + 1 + 1, 2, none⟩ = false ∧ w'.frozen? ⟨w.heap.size + 1 + 1, 3, none⟩ = false ∧ w'.frozen? ⟨w.heap.size + 1 + 1, 4, none⟩ = false ∧ w.heap.size + 1 + 1 < w'.heap.size ∧ Keeps (w.heap.size) [(kb, 0, .int .i64 k), (w.heap.size, 0, .int .i64 a), (w.heap.size, 1, .int .i64 b), (w.heap.size + 1, 0, .int .i64 c), (w.heap.size + 1, 1, .int .i64 d)] [(w.heap.size + 1 + 1, 0), (w.heap.size + 1 + 1, 1), (w.heap.size + 1 + 1, 2), (w.heap.size + 1 + 1, 3), (w.heap.size + 1 + 1, 4)] w w') (by kernel_rfl) ⟨(ID).fixed (kb, 0, .int .i64 k) (by simp), (ID).fixed (w.heap.size, 0, .int .i64 a) (by simp), (ID).fixed (w.heap.size, 1, .int .i64 b) (by simp), (ID).fixed (w.heap.size + 1, 0, .int .i64 c) (by simp), (ID).fixed (w.heap.size + 1, 1, .int .i64 d) (by simp), (ID).there (w.heap.size + 1 + 1, 0) (by simp), (ID).there (w.heap.size + 1 + 1, 1) (by simp), (ID).there (w.heap.size + 1 + 1, 2) (by simp), (ID).there (w.heap.size + 1 + 1, 3) (by simp), (ID).there (w.heap.size + 1 + 1, 4) (by simp), (ID).froz (w.heap.size + 1 + 1, 0) (by simp), (ID).froz (w.heap.size + 1 + 1, 1) (by simp), (ID).froz (w.heap.size + 1 + 1, 2) (by simp), (ID).froz (w.heap.size + 1 + 1, 3) (by simp), (ID).froz (w.heap.size + 1 + 1, 4) (by simp), (ID).lt (w.heap.size + 1 + 1, 0) (by simp), ID⟩ (fun hHeld => ?_)
 refine tk (i := 0) (v := ?_) rfl (by kernel_rfl) (by kernel_rfl) (by kernel_rfl) (fun _ _ _ h => h) (Or.inl ⟨by rfl, ?_⟩) (by assumption) ?_
 rotate_left
 focus (intro w' hSw; (try dsimp only at hSw); go_simp; try with_reducible rfl)
 try simp only [Act.put, p1, p2, p3, p4, p5, p6]
 refine tk (i := 1) (v := ?_) rfl (by kernel_rfl) (by kernel_rfl) (by kernel_rfl) (fun _ _ _ h => h) (Or.inl ⟨by rfl, ?_⟩) (by assumption) ?_
 rotate_left
 focus (intro w' hSw; (try dsimp only at hSw); go_simp; try with_reducible rfl)
 try simp only [Act.put, p1, p2, p3, p4, p5, p6]
 refine tk (i := 2) (v := ?_) rfl (by kernel_rfl) (by kernel_rfl) (by kernel_rfl) (fun _ _ _ h => h) (Or.inl ⟨by rfl, ?_⟩) (by assumption) ?_
 rotate_left
 focus (intro w' hSw; (try dsimp only at hSw); go_simp; try with_reducible rfl)
 try simp only [Act.put, p1, p2, p3, p4, p5, p6]
 refine tk (i := 3) (v := ?_) rfl (by kernel_rfl) (by kernel_rfl) (by kernel_rfl) (fun _ _ _ h => h) (Or.inl ⟨by rfl, ?_⟩) (by assumption) ?_
 rotate_left
 focus (intro w' hSw; (try dsimp only at hSw); go_simp; try with_reducible rfl)
 try simp only [Act.put, p1, p2, p3, p4, p5, p6]
 refine tk (i := 4) (v := ?_) rfl (by kernel_rfl) (by kernel_rfl) (by kernel_rfl) (fun _ _ _ h => h) (Or.inl ⟨by rfl, ?_⟩) (by assumption) ?_
 rotate_left
 focus (intro w' hSw; (try dsimp only at hSw); go_simp; try with_reducible rfl)
 try simp only [Act.put, p1, p2, p3, p4, p5, p6]
 refine rd (rs := [5]) (by kernel_rfl) (by simp) ?_
 refine AllReadyH.cons rfl (fun K hK => ?_) AllReadyH.nil
 go_simp
 go_at_call 95
 refine (D _).out.mono ?_
 rintro eq1 wq1 ⟨v, rfl, hB1, hC⟩
 have HC := Lib.hid hC
 have I1 := Lib.hid (ID.later hB1)
 clear hB1 hC
 go_wp2_with fail
 refine hK.out _ _ ⟨(I1.out).fixed (kb, 0, .int .i64 k) (by simp), (I1.out).fixed (w.heap.size, 0, .int .i64 a) (by simp), (I1.out).fixed (w.heap.size, 1, .int .i64 b) (by simp), (I1.out).fixed (w.heap.size + 1, 0, .int .i64 c) (by simp), (I1.out).fixed (w.heap.size + 1, 1, .int .i64 d) (by simp), (I1.out).there (w.heap.size + 1 + 1, 0) (by simp), (I1.out).there (w.heap.size + 1 + 1, 1) (by simp), (I1.out).there (w.heap.size + 1 + 1, 2) (by simp), (I1.out).there (w.heap.size + 1 + 1, 3) (by simp), (I1.out).there (w.heap.size + 1 + 1, 4) (by simp), (I1.out).froz (w.heap.size + 1 + 1, 0) (by simp), (I1.out).froz (w.heap.size + 1 + 1, 1) (by simp), (I1.out).froz (w.heap.size + 1 + 1, 2) (by simp), (I1.out).froz (w.heap.size + 1 + 1, 3) (by simp), (I1.out).froz (w.heap.size + 1 + 1, 4) (by simp), (I1.out).lt (w.heap.size + 1 + 1, 0) (by simp), I1.out⟩ (fun hHeld => ?_)
 clear hK K
 try simp only [Act.put, p1, p2, p3, p4, p5, p6]
 refine rd (rs := [6]) (by kernel_rfl) (by simp) ?_
 refine AllReadyH.cons rfl (fun K hK => ?_) AllReadyH.nil
 go_simp
 go_at_call 90
 refine HC.out.mono ?_
 rintro eq2 wq2 ⟨rfl, hB2⟩
 have I2 := Lib.hid (I1.out.later hB2)
 clear hB2 HC
 go_wp2_with fail
 refine hK.out _ _ ⟨(I2.out).fixed (kb, 0, .int .i64 k) (by simp), (I2.out).fixed (w.heap.size, 0, .int .i64 a) (by simp), (I2.out).fixed (w.heap.size, 1, .int .i64 b) (by simp), (I2.out).fixed (w.heap.size + 1, 0, .int .i64 c) (by simp), (I2.out).fixed (w.heap.size + 1, 1, .int .i64 d) (by simp), (I2.out).there (w.heap.size + 1 + 1, 0) (by simp), (I2.out).there (w.heap.size + 1 + 1, 1) (by simp), (I2.out).there (w.heap.size + 1 + 1, 2) (by simp), (I2.out).there (w.heap.size + 1 + 1, 3) (by simp), (I2.out).there (w.heap.size + 1 + 1, 4) (by simp), (I2.out).froz (w.heap.size + 1 + 1, 0) (by simp), (I2.out).froz (w.heap.size + 1 + 1, 1) (by simp), (I2.out).froz (w.heap.size + 1 + 1, 2) (by simp), (I2.out).froz (w.heap.size + 1 + 1, 3) (by simp), (I2.out).froz (w.heap.size + 1 + 1, 4) (by simp), (I2.out).lt (w.heap.size + 1 + 1, 0) (by simp), I2.out⟩ (fun hHeld => ?_)
 clear hK K
 try simp only [Act.put, p1, p2, p3, p4, p5, p6]
 refine rd (rs := [7]) (by kernel_rfl) (by simp) ?_
 refine AllReadyH.cons rfl (fun K hK => ?_) AllReadyH.nil
 go_simp
 go_at_call 93
 refine (P.out _).out.mono ?_
 rintro eq3 wq3 ⟨rfl, hB3⟩
 have I3 := Lib.hid (I2.out.later hB3)
 clear hB3
 go_wp2_with fail
 refine hK.out _ _ ⟨(I3.out).fixed (kb, 0, .int .i64 k) (by simp), (I3.out).fixed (w.heap.size, 0, .int .i64 a) (by simp), (I3.out).fixed (w.heap.size, 1, .int .i64 b) (by simp), (I3.out).fixed (w.heap.size + 1, 0, .int .i64 c) (by simp), (I3.out).fixed (w.heap.size + 1, 1, .int .i64 d) (by simp), (I3.out).there (w.heap.size + 1 + 1, 0) (by simp), (I3.out).there (w.heap.size + 1 + 1, 1) (by simp), (I3.out).there (w.heap.size + 1 + 1, 2) (by simp), (I3.out).there (w.heap.size + 1 + 1, 3) (by simp), (I3.out).there (w.heap.size + 1 + 1, 4) (by simp), (I3.out).froz (w.heap.size + 1 + 1, 0) (by simp), (I3.out).froz (w.heap.size + 1 + 1, 1) (by simp), (I3.out).froz (w.heap.size + 1 + 1, 2) (by simp), (I3.out).froz (w.heap.size + 1 + 1, 3) (by simp), (I3.out).froz (w.heap.size + 1 + 1, 4) (by simp), (I3.out).lt (w.heap.size + 1 + 1, 0) (by simp), I3.out⟩ (fun hHeld => ?_)
 clear hK K
 try simp only [Act.put, p1, p2, p3, p4, p5, p6]
 refine rd (rs := [8]) (by kernel_rfl) (by simp) ?_
 refine AllReadyH.cons rfl (fun K hK => ?_) AllReadyH.nil
 go_simp
 have I13 := Lib.hid (Keeps.set (Keeps.set (Keeps.set (Keeps.set (Keeps.set (I3.out) (w.heap.size + 1 + 1) 0 (.int .i64 x) (by simp) (by omega) (by simp; try omega)) (w.heap.size + 1 + 1) 1 (.int .i64 y) (by simp) (by omega) (by simp; try omega)) (w.heap.size + 1 + 1) 2 (.bool s) (by simp) (by omega) (by simp; try omega)) (w.heap.size + 1 + 1) 3 (.bool t) (by simp) (by omega) (by simp; try omega)) (w.heap.size + 1 + 1) 4 (.bool u) (by simp) (by omega) (by simp; try omega))
 refine hK.out _ _ ⟨(I13.out).fixed (kb, 0, .int .i64 k) (by simp), (I13.out).fixed (w.heap.size, 0, .int .i64 a) (by simp), (I13.out).fixed (w.heap.size, 1, .int .i64 b) (by simp), (I13.out).fixed (w.heap.size + 1, 0, .int .i64 c) (by simp), (I13.out).fixed (w.heap.size + 1, 1, .int .i64 d) (by simp), (I13.out).there (w.heap.size + 1 + 1, 0) (by simp), (I13.out).there (w.heap.size + 1 + 1, 1) (by simp), (I13.out).there (w.heap.size + 1 + 1, 2) (by simp), (I13.out).there (w.heap.size + 1 + 1, 3) (by simp), (I13.out).there (w.heap.size + 1 + 1, 4) (by simp), (I13.out).froz (w.heap.size + 1 + 1, 0) (by simp), (I13.out).froz (w.heap.size + 1 + 1, 1) (by simp), (I13.out).froz (w.heap.size + 1 + 1, 2) (by simp), (I13.out).froz (w.heap.size + 1 + 1, 3) (by simp), (I13.out).froz (w.heap.size + 1 + 1, 4) (by simp), (I13.out).lt (w.heap.size + 1 + 1, 0) (by simp), I13.out⟩ (fun hHeld => ?_)
 clear hK K
 try simp only [Act.put, p1, p2, p3, p4, p5, p6]
 refine wpAnyH_done (by kernel_rfl) ?_ _
 have e0 : wq3.cell? ⟨w.heap.size + 1 + 1, 0, none⟩ = some (valAt wq3 ⟨w.heap.size + 1 + 1, 0, none⟩) := (I3.out).there (w.heap.size + 1 + 1, 0) (by simp)
 have e1 : wq3.cell? ⟨w.heap.size + 1 + 1, 1, none⟩ = some (valAt wq3 ⟨w.heap.size + 1 + 1, 1, none⟩) := (I3.out).there (w.heap.size + 1 + 1, 1) (by simp)
 have e2 : wq3.cell? ⟨w.heap.size + 1 + 1, 2, none⟩ = some (valAt wq3 ⟨w.heap.size + 1 + 1, 2, none⟩) := (I3.out).there (w.heap.size + 1 + 1, 2) (by simp)
 have e3 : wq3.cell? ⟨w.heap.size + 1 + 1, 3, none⟩ = some (valAt wq3 ⟨w.heap.size + 1 + 1, 3, none⟩) := (I3.out).there (w.heap.size + 1 + 1, 3) (by simp)
 have e4 : wq3.cell? ⟨w.heap.size + 1 + 1, 4, none⟩ = some (valAt wq3 ⟨w.heap.size + 1 + 1, 4, none⟩) := (I3.out).there (w.heap.size + 1 + 1, 4) (by simp)
 have bl := (I13.out).bl
 go_wp2
 refine bodyPost_ret (v := EffV x y s t u) (by simp [results, Try.results92, go_sem, EffV, e0, e1, e2, e3, e4]) rfl ⟨rfl, bl⟩
theorem parith_3 (a b c d x y : Int) (s t u : Bool) (w : World) (D : EffFn 97 #[.agg #[.int .i64 a, .int .i64 b], .agg #[.int .i64 c, .int .i64 d]] x y s false false)
   (P : EffFn 93 #[.agg #[.int .i64 a, .int .i64 b], .agg #[.int .i64 c, .int .i64 d], .agg #[.int .i64 x, .int .i64 y, .bool s, .bool false, .bool false]] x y s t u) :
   Calls Try.prog 96 #[.agg #[.int .i64 a, .int .i64 b], .agg #[.int .i64 c, .int .i64 d]] w fun e w' => e = .returned (EffV x y s t u) ∧ Below w.heap.size w w' := by
 have P := Lib.hid P
 have D := Lib.hid D
 go_enter Try.func96, Try.ntmps96
 go_wp2_with fail
 have KI : Keeps (w.heap.size) [(w.heap.size, 0, .int .i64 a), (w.heap.size, 1, .int .i64 b), (w.heap.size + 1, 0, .int .i64 c), (w.heap.size + 1, 1, .int .i64 d)] [(w.heap.size + 1 + 1, 0), (w.heap.size + 1 + 1, 1), (w.heap.size + 1 + 1, 2), (w.heap.size + 1 + 1, 3), (w.heap.size + 1 + 1, 4)] w (((w.alloc (.cells #[.int .i64 a, .int .i64 b] 23)).alloc (.cells #[.int .i64 c, .int .i64 d] 23)).alloc (.cells #[.int .i64 0, .int .i64 0, .bool false, .bool false, .bool false] 37)) := by
   refine ⟨?_, ?_, ?_, ?_, by simp; try omega, (((Below.refl _ _).alloc (Nat.le_refl _) _).alloc (by simp) _).alloc (by simp; omega) _⟩
   · simp only [fm, nm, false_imp_iff, implies_true, and_true]
     exact ⟨by go_simp, by go_simp, by go_simp, by go_simp⟩
   · simp only [fm, nm, false_imp_iff, implies_true, and_true]
     exact ⟨valAt_some (by go_simp), valAt_some (by go_simp), valAt_some (by go_simp), valAt_some (by go_simp), valAt_some (by go_simp)⟩
   · simp only [fm, nm, false_imp_iff, implies_true, and_true]
     exact ⟨by go_simp, by go_simp, by go_simp, by go_simp, by go_simp⟩
   · simp only [fm, nm, false_imp_iff, implies_true, and_true]
     exact ⟨by simp; try omega, by simp; try omega, by simp; try omega, by simp; try omega, by simp; try omega⟩
 have ID := KI.later (Below.refl _ _).drew
 clear KI 
 generalize (((w.alloc (.cells #[.int .i64 a, .int .i64 b] 23)).alloc (.cells #[.int .i64 c, .int .i64 d] 23)).alloc (.cells #[.int .i64 0, .int .i64 0, .bool false, .bool false, .bool false] 37)) = W at *
 refine wp_region_held_drew (S := fun w' => w'.cell? ⟨w.heap.size, 0, none⟩ = some (.int .i64 a) ∧ w'.cell? ⟨w.heap.size, 1, none⟩ = some (.int .i64 b) ∧ w'.cell? ⟨w.heap.size + 1, 0, none⟩ = some (.int .i64 c) ∧ w'.cell? ⟨w.heap.size + 1, 1, none⟩ = some (.int .i64 d) ∧ w'.cell? ⟨w.heap.size + 1 + 1, 0, none⟩ = some (valAt w' ⟨w.heap.size + 1 + 1, 0, none⟩) ∧ w'.cell? ⟨w.heap.size + 1 + 1, 1, none⟩ = some (valAt w' ⟨w.heap.size + 1 + 1, 1, none⟩) ∧ w'.cell? ⟨w.heap.size + 1 + 1, 2, none⟩ = some (valAt w' ⟨w.heap.size + 1 + 1, 2, none⟩) ∧ w'.cell? ⟨w.heap.size + 1 + 1, 3, none⟩ = some (valAt w' ⟨w.heap.size + 1 + 1, 3, none⟩) ∧ w'.cell? ⟨w.heap.size + 1 + 1, 4, none⟩ = some (valAt w' ⟨w.heap.size + 1 + 1, 4, none⟩) ∧ w'.frozen? ⟨w.heap.size + 1 + 1, 0, none⟩ = false ∧ w'.frozen? ⟨w.heap.size + 1 + 1, 1, none⟩ = false ∧ w'.frozen? ⟨w.heap.size + 1 + 1, 2, none⟩ = false ∧ w'.frozen? ⟨w.heap.size + 1 + 1, 3, none⟩ = false ∧ w'.frozen? ⟨w.heap.size + 1 + 1, 4, none⟩ = false ∧ w.heap.size + 1 + 1 < w'.heap.size ∧ Keeps (w.heap.size) [(w.heap.size, 0, .int .i64 a), (w.heap.size, 1, .int .i64 b), (w.heap.size + 1, 0, .int .i64 c), (w.heap.size + 1, 1, .int .i64 d)] [(w.heap.size + 1 + 1, 0), (w.heap.size + 1 + 1, 1), (w.heap.size + 1 + 1, 2), (w.heap.size + 1 + 1, 3), (w.heap.size + 1 + 1, 4)] w w') (by kernel_rfl) ⟨(ID).fixed (w.heap.size, 0, .int .i64 a) (by simp), (ID).fixed (w.heap.size, 1, .int .i64 b) (by simp), (ID).fixed (w.heap.size + 1, 0, .int .i64 c) (by simp), (ID).fixed (w.heap.size + 1, 1, .int .i64 d) (by simp), (ID).there (w.heap.size + 1 + 1, 0) (by simp), (ID).there (w.heap.size + 1 + 1, 1) (by simp), (ID).there (w.heap.size + 1 + 1, 2) (by simp), (ID).there (w.heap.size + 1 + 1, 3) (by simp), (ID).there (w.heap.size + 1 + 1, 4) (by simp), (ID).froz (w.heap.size + 1 + 1, 0) (by simp), (ID).froz (w.heap.size + 1 + 1, 1) (by simp), (ID).froz (w.heap.size + 1 + 1, 2) (by simp), (ID).froz (w.heap.size + 1 + 1, 3) (by simp), (ID).froz (w.heap.size + 1 + 1, 4) (by simp), (ID).lt (w.heap.size + 1 + 1, 0) (by simp), ID⟩ (fun hHeld => ?_)
 refine tk (i := 0) (v := ?_) rfl (by kernel_rfl) (by kernel_rfl) (by kernel_rfl) (fun _ _ _ h => h) (Or.inl ⟨by rfl, ?_⟩) (by assumption) ?_
 rotate_left
 focus (intro w' hSw; (try dsimp only at hSw); go_simp; try with_reducible rfl)
 try simp only [Act.put, p1, p2, p3, p4, p5, p6]
 refine tk (i := 1) (v := ?_) rfl (by kernel_rfl) (by kernel_rfl) (by kernel_rfl) (fun _ _ _ h => h) (Or.inl ⟨by rfl, ?_⟩) (by assumption) ?_
 rotate_left
 focus (intro w' hSw; (try dsimp only at hSw); go_simp; try with_reducible rfl)
 try simp only [Act.put, p1, p2, p3, p4, p5, p6]
 refine tk (i := 2) (v := ?_) rfl (by kernel_rfl) (by kernel_rfl) (by kernel_rfl) (fun _ _ _ h => h) (Or.inl ⟨by rfl, ?_⟩) (by assumption) ?_
 rotate_left
 focus (intro w' hSw; (try dsimp only at hSw); go_simp; try with_reducible rfl)
 try simp only [Act.put, p1, p2, p3, p4, p5, p6]
 refine tk (i := 3) (v := ?_) rfl (by kernel_rfl) (by kernel_rfl) (by kernel_rfl) (fun _ _ _ h => h) (Or.inl ⟨by rfl, ?_⟩) (by assumption) ?_
 rotate_left
 focus (intro w' hSw; (try dsimp only at hSw); go_simp; try with_reducible rfl)
 try simp only [Act.put, p1, p2, p3, p4, p5, p6]
 refine rd (rs := [4]) (by kernel_rfl) (by simp) ?_
 refine AllReadyH.cons rfl (fun K hK => ?_) AllReadyH.nil
 go_simp
 go_at_call 97
 refine (D.out _).out.mono ?_
 rintro eq1 wq1 ⟨rfl, hB1⟩
 have I1 := Lib.hid (ID.later hB1)
 clear hB1
 go_wp2_with fail
 refine hK.out _ _ ⟨(I1.out).fixed (w.heap.size, 0, .int .i64 a) (by simp), (I1.out).fixed (w.heap.size, 1, .int .i64 b) (by simp), (I1.out).fixed (w.heap.size + 1, 0, .int .i64 c) (by simp), (I1.out).fixed (w.heap.size + 1, 1, .int .i64 d) (by simp), (I1.out).there (w.heap.size + 1 + 1, 0) (by simp), (I1.out).there (w.heap.size + 1 + 1, 1) (by simp), (I1.out).there (w.heap.size + 1 + 1, 2) (by simp), (I1.out).there (w.heap.size + 1 + 1, 3) (by simp), (I1.out).there (w.heap.size + 1 + 1, 4) (by simp), (I1.out).froz (w.heap.size + 1 + 1, 0) (by simp), (I1.out).froz (w.heap.size + 1 + 1, 1) (by simp), (I1.out).froz (w.heap.size + 1 + 1, 2) (by simp), (I1.out).froz (w.heap.size + 1 + 1, 3) (by simp), (I1.out).froz (w.heap.size + 1 + 1, 4) (by simp), (I1.out).lt (w.heap.size + 1 + 1, 0) (by simp), I1.out⟩ (fun hHeld => ?_)
 clear hK K
 try simp only [Act.put, p1, p2, p3, p4, p5, p6]
 refine rd (rs := [5]) (by kernel_rfl) (by simp) ?_
 refine AllReadyH.cons rfl (fun K hK => ?_) AllReadyH.nil
 go_simp
 go_at_call 93
 refine (P.out _).out.mono ?_
 rintro eq2 wq2 ⟨rfl, hB2⟩
 have I2 := Lib.hid (I1.out.later hB2)
 clear hB2
 go_wp2_with fail
 refine hK.out _ _ ⟨(I2.out).fixed (w.heap.size, 0, .int .i64 a) (by simp), (I2.out).fixed (w.heap.size, 1, .int .i64 b) (by simp), (I2.out).fixed (w.heap.size + 1, 0, .int .i64 c) (by simp), (I2.out).fixed (w.heap.size + 1, 1, .int .i64 d) (by simp), (I2.out).there (w.heap.size + 1 + 1, 0) (by simp), (I2.out).there (w.heap.size + 1 + 1, 1) (by simp), (I2.out).there (w.heap.size + 1 + 1, 2) (by simp), (I2.out).there (w.heap.size + 1 + 1, 3) (by simp), (I2.out).there (w.heap.size + 1 + 1, 4) (by simp), (I2.out).froz (w.heap.size + 1 + 1, 0) (by simp), (I2.out).froz (w.heap.size + 1 + 1, 1) (by simp), (I2.out).froz (w.heap.size + 1 + 1, 2) (by simp), (I2.out).froz (w.heap.size + 1 + 1, 3) (by simp), (I2.out).froz (w.heap.size + 1 + 1, 4) (by simp), (I2.out).lt (w.heap.size + 1 + 1, 0) (by simp), I2.out⟩ (fun hHeld => ?_)
 clear hK K
 try simp only [Act.put, p1, p2, p3, p4, p5, p6]
 refine rd (rs := [6]) (by kernel_rfl) (by simp) ?_
 refine AllReadyH.cons rfl (fun K hK => ?_) AllReadyH.nil
 go_simp
 have I12 := Lib.hid (Keeps.set (Keeps.set (Keeps.set (Keeps.set (Keeps.set (I2.out) (w.heap.size + 1 + 1) 0 (.int .i64 x) (by simp) (by omega) (by simp; try omega)) (w.heap.size + 1 + 1) 1 (.int .i64 y) (by simp) (by omega) (by simp; try omega)) (w.heap.size + 1 + 1) 2 (.bool s) (by simp) (by omega) (by simp; try omega)) (w.heap.size + 1 + 1) 3 (.bool t) (by simp) (by omega) (by simp; try omega)) (w.heap.size + 1 + 1) 4 (.bool u) (by simp) (by omega) (by simp; try omega))
 refine hK.out _ _ ⟨(I12.out).fixed (w.heap.size, 0, .int .i64 a) (by simp), (I12.out).fixed (w.heap.size, 1, .int .i64 b) (by simp), (I12.out).fixed (w.heap.size + 1, 0, .int .i64 c) (by simp), (I12.out).fixed (w.heap.size + 1, 1, .int .i64 d) (by simp), (I12.out).there (w.heap.size + 1 + 1, 0) (by simp), (I12.out).there (w.heap.size + 1 + 1, 1) (by simp), (I12.out).there (w.heap.size + 1 + 1, 2) (by simp), (I12.out).there (w.heap.size + 1 + 1, 3) (by simp), (I12.out).there (w.heap.size + 1 + 1, 4) (by simp), (I12.out).froz (w.heap.size + 1 + 1, 0) (by simp), (I12.out).froz (w.heap.size + 1 + 1, 1) (by simp), (I12.out).froz (w.heap.size + 1 + 1, 2) (by simp), (I12.out).froz (w.heap.size + 1 + 1, 3) (by simp), (I12.out).froz (w.heap.size + 1 + 1, 4) (by simp), (I12.out).lt (w.heap.size + 1 + 1, 0) (by simp), I12.out⟩ (fun hHeld => ?_)
 clear hK K
 try simp only [Act.put, p1, p2, p3, p4, p5, p6]
 refine wpAnyH_done (by kernel_rfl) ?_ _
 have e0 : wq2.cell? ⟨w.heap.size + 1 + 1, 0, none⟩ = some (valAt wq2 ⟨w.heap.size + 1 + 1, 0, none⟩) := (I2.out).there (w.heap.size + 1 + 1, 0) (by simp)
 have e1 : wq2.cell? ⟨w.heap.size + 1 + 1, 1, none⟩ = some (valAt wq2 ⟨w.heap.size + 1 + 1, 1, none⟩) := (I2.out).there (w.heap.size + 1 + 1, 1) (by simp)
 have e2 : wq2.cell? ⟨w.heap.size + 1 + 1, 2, none⟩ = some (valAt wq2 ⟨w.heap.size + 1 + 1, 2, none⟩) := (I2.out).there (w.heap.size + 1 + 1, 2) (by simp)
 have e3 : wq2.cell? ⟨w.heap.size + 1 + 1, 3, none⟩ = some (valAt wq2 ⟨w.heap.size + 1 + 1, 3, none⟩) := (I2.out).there (w.heap.size + 1 + 1, 3) (by simp)
 have e4 : wq2.cell? ⟨w.heap.size + 1 + 1, 4, none⟩ = some (valAt wq2 ⟨w.heap.size + 1 + 1, 4, none⟩) := (I2.out).there (w.heap.size + 1 + 1, 4) (by simp)
 have bl := (I12.out).bl
 go_wp2
 refine bodyPost_ret (v := EffV x y s t u) (by simp [results, Try.results96, go_sem, EffV, e0, e1, e2, e3, e4]) rfl ⟨rfl, bl⟩
end Go.Proofs.Ytgkhldbnljdeiaa
