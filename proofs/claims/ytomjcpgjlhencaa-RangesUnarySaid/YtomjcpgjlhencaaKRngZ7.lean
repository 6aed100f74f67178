/- The contract of divisible of layer 4. -/
import Derived.Test.YtomjcpgjlhencaaKRngZ4ToRngZ6
set_option linter.unusedSimpArgs false
set_option linter.unusedVariables false
namespace Go.Proofs.Ytomjcpgjlhencaa
open Go.RowKit RangesMath
attribute [local go_sem] World.setCell_self
attribute [local go_sem ↓] Go.wp_at_zero Go.wp_at_succ

theorem info_rpair : (Try.prog.info? 122).map (fun i => (i.zero, i.size, i.bytes)) = some (some (.agg #[.int .i64 0, .int .i64 0, .int .i64 0, .int .i64 0]), 4, 32) := by kernel_rfl
def optS (s m : Bool) (p : Pr) : List Pr := if s && m then [p] else []
/-- A slice of pairs that the call has made. -/
def PairsOut (l : List Pr) (w : World) (e : Ending) (w' : World) : Prop := ∃ v, e = .returned v ∧ w'.ownsRow w.heap.size 122 4 v l.length (flat4 l) ∧ Below w.heap.size w w'
/-- common of these two ranges. -/
def Com (a b c d x y : Int) (s : Bool) : Prop := ∀ w, Hid (Calls Try.prog 32 #[.agg #[.int .i64 a, .int .i64 b], .agg #[.int .i64 c, .int .i64 d]] w fun e w' => e = .returned (.tuple #[.agg #[.int .i64 x, .int .i64 y], .bool s]) ∧ Below w.heap.size w w')

theorem owns_base {w : World} {base base' e size n : Nat} {v : Value} {xs : List Value} (h : w.ownsRow base e size v n xs) (hb : base' ≤ base) : w.ownsRow base' e size v n xs := by
  obtain ⟨hl, h⟩ := h
  refine ⟨hl, ?_⟩
  rcases h with h | ⟨g, cap, cur, rfl, hb', r⟩
  · exact .inl h
  · exact .inr ⟨g, cap, cur, rfl, Nat.le_trans hb hb', r⟩

set_option maxRecDepth 100000 in
set_option maxHeartbeats 4000000 in
theorem pdivisible_walk (a b c d x0 y0 u0 v0 x1 y1 u1 v1 x2 y2 u2 v2 : Int) (s0 m0 s1 m1 s2 m2 : Bool) (w : World)
    (A0 : Com a b (-9223372036854775808) 9223372036854775807 x0 y0 s0) (B0 : Com c d (-9223372036854775808) (-2) u0 v0 m0)
    (A1 : Com a b (-9223372036854775807) 9223372036854775807 x1 y1 s1) (B1 : Com c d (-1) (-1) u1 v1 m1)
    (A2 : Com a b (-9223372036854775808) 9223372036854775807 x2 y2 s2) (B2 : Com c d 1 9223372036854775807 u2 v2 m2)
    : Calls Try.prog 95 #[.agg #[.int .i64 a, .int .i64 b], .agg #[.int .i64 c, .int .i64 d]] w (PairsOut (optS s0 m0 ⟨x0, y0, u0, v0⟩ ++ optS s1 m1 ⟨x1, y1, u1, v1⟩ ++ optS s2 m2 ⟨x2, y2, u2, v2⟩) w) := by
  obtain ⟨i0, hi, hz0, hz1, hz2⟩ := info_parts info_rpair
  have A0 := Lib.hid A0
  have A1 := Lib.hid A1
  have A2 := Lib.hid A2
  have B0 := Lib.hid B0
  have B1 := Lib.hid B1
  have B2 := Lib.hid B2
  go_enter Try.func95, Try.ntmps95
  go_wp2_with fail
  have a0 : (((w.alloc (.cells #[.int .i64 a, .int .i64 b] 23)).alloc (.cells #[.int .i64 c, .int .i64 d] 23)).alloc (.cells #[.int .i64 (-9223372036854775808), .int .i64 9223372036854775807] 23)).cell? ⟨w.heap.size, 0, none⟩ = some (.int .i64 a) := by go_simp
  have a1 : (((w.alloc (.cells #[.int .i64 a, .int .i64 b] 23)).alloc (.cells #[.int .i64 c, .int .i64 d] 23)).alloc (.cells #[.int .i64 (-9223372036854775808), .int .i64 9223372036854775807] 23)).cell? ⟨w.heap.size, 1, none⟩ = some (.int .i64 b) := by go_simp
  have c0 : (((w.alloc (.cells #[.int .i64 a, .int .i64 b] 23)).alloc (.cells #[.int .i64 c, .int .i64 d] 23)).alloc (.cells #[.int .i64 (-9223372036854775808), .int .i64 9223372036854775807] 23)).cell? ⟨w.heap.size + 1, 0, none⟩ = some (.int .i64 c) := by go_simp
  have c1 : (((w.alloc (.cells #[.int .i64 a, .int .i64 b] 23)).alloc (.cells #[.int .i64 c, .int .i64 d] 23)).alloc (.cells #[.int .i64 (-9223372036854775808), .int .i64 9223372036854775807] 23)).cell? ⟨w.heap.size + 1, 1, none⟩ = some (.int .i64 d) := by go_simp
  have sz : (((w.alloc (.cells #[.int .i64 a, .int .i64 b] 23)).alloc (.cells #[.int .i64 c, .int .i64 d] 23)).alloc (.cells #[.int .i64 (-9223372036854775808), .int .i64 9223372036854775807] 23)).heap.size = w.heap.size + 1 + 1 + 1 := by simp
  have bl : Below w.heap.size w (((w.alloc (.cells #[.int .i64 a, .int .i64 b] 23)).alloc (.cells #[.int .i64 c, .int .i64 d] 23)).alloc (.cells #[.int .i64 (-9223372036854775808), .int .i64 9223372036854775807] 23)) := (((Below.refl _ _).alloc (Nat.le_refl _) _).alloc (by simp) _).alloc (by simp; omega) _
  generalize (((w.alloc (.cells #[.int .i64 a, .int .i64 b] 23)).alloc (.cells #[.int .i64 c, .int .i64 d] 23)).alloc (.cells #[.int .i64 (-9223372036854775808), .int .i64 9223372036854775807] 23)) = W0 at *
  have HA := Lib.hid (And.intro a0 (And.intro a1 (And.intro c0 c1)))
  have BL := Lib.hid bl
  have g0 : w.heap.size < W0.heap.size := by omega
  have g1 : w.heap.size + 1 < W0.heap.size := by omega
  clear a0 a1 c0 c1 sz bl
  go_loopw [6, 24] (fun v i wr => (i = .int .i64 0 ∧ Below W0.heap.size W0 wr ∧ wr.ownsRow W0.heap.size 122 4 v (([] : List Pr)).length (flat4 ([]))) ∨ (i = .int .i64 1 ∧ Below W0.heap.size W0 wr ∧ wr.ownsRow W0.heap.size 122 4 v (optS s0 m0 ⟨x0, y0, u0, v0⟩).length (flat4 (optS s0 m0 ⟨x0, y0, u0, v0⟩))) ∨ (i = .int .i64 2 ∧ Below W0.heap.size W0 wr ∧ wr.ownsRow W0.heap.size 122 4 v (optS s0 m0 ⟨x0, y0, u0, v0⟩ ++ optS s1 m1 ⟨x1, y1, u1, v1⟩).length (flat4 (optS s0 m0 ⟨x0, y0, u0, v0⟩ ++ optS s1 m1 ⟨x1, y1, u1, v1⟩))) ∨ (i = .int .i64 3 ∧ Below W0.heap.size W0 wr ∧ wr.ownsRow W0.heap.size 122 4 v (optS s0 m0 ⟨x0, y0, u0, v0⟩ ++ optS s1 m1 ⟨x1, y1, u1, v1⟩ ++ optS s2 m2 ⟨x2, y2, u2, v2⟩).length (flat4 (optS s0 m0 ⟨x0, y0, u0, v0⟩ ++ optS s1 m1 ⟨x1, y1, u1, v1⟩ ++ optS s2 m2 ⟨x2, y2, u2, v2⟩)))) (fun _ i _ => (3 - intOf i).toNat)
  case atStart => exact .inl ⟨rfl, Below.refl _ _, World.ownsRow_nil _ _ _ _⟩
  case round =>
    rcases hrel with ⟨rfl, hb, ho⟩ | ⟨rfl, hb, ho⟩ | ⟨rfl, hb, ho⟩ | ⟨rfl, hb, ho⟩
    · have HB := Lib.hid hb
      have HO := Lib.hid ho
      have hsz := hb.size
      clear hb ho
      have hln : (([] : List Pr)).length ≤ 0 := by simp
      have HLN := Lib.hid (rfl : (([] : List Pr)).length = (([] : List Pr)).length)
      generalize hL : (([] : List Pr)) = L at *
      have HL := Lib.hid hL
      clear hL HLN
      have a0 := at_below HB.out g0 HA.out.1
      have a1 := at_below HB.out g0 HA.out.2.1
      have a0' : (wr.alloc (.cells #[.int .i64 (-9223372036854775808), .int .i64 9223372036854775807, .int .i64 (-9223372036854775808), .int .i64 (-2)] 122)).cell? ⟨w.heap.size, 0, none⟩ = some (.int .i64 a) := by rw [World.cell?_alloc_lt _ _ _ (World.block_lt_of_cell? _ _ a0)]; exact a0
      have a1' : (wr.alloc (.cells #[.int .i64 (-9223372036854775808), .int .i64 9223372036854775807, .int .i64 (-9223372036854775808), .int .i64 (-2)] 122)).cell? ⟨w.heap.size, 1, none⟩ = some (.int .i64 b) := by rw [World.cell?_alloc_lt _ _ _ (World.block_lt_of_cell? _ _ a1)]; exact a1
      have ix : ∀ w, (Instr.index 135 (.agg #[.int .i64 (-9223372036854775808), .int .i64 9223372036854775807, .int .i64 (-9223372036854775808), .int .i64 (-2), .int .i64 (-9223372036854775807), .int .i64 9223372036854775807, .int .i64 (-1), .int .i64 (-1), .int .i64 (-9223372036854775808), .int .i64 9223372036854775807, .int .i64 1, .int .i64 9223372036854775807]) (.int .i64 0)).run Try.prog w = .ok (.agg #[.int .i64 (-9223372036854775808), .int .i64 9223372036854775807, .int .i64 (-9223372036854775808), .int .i64 (-2)]) w := fun _ => by kernel_rfl
      go_wp2_with fail
      clear ix a0 a1 a0' a1'
      refine (A0.out _).out.mono ?_
      rintro e wa ⟨rfl, hA⟩
      have b9 : wr.heap.size < wa.heap.size := by have := hA.size; simp at this; omega
      have q2 : wa.cell? ⟨wr.heap.size, 2, none⟩ = some (.int .i64 (-9223372036854775808)) := cell_later hA (by go_simp)
      have q3 : wa.cell? ⟨wr.heap.size, 3, none⟩ = some (.int .i64 (-2)) := cell_later hA (by go_simp)
      have HBa := Lib.hid (HB.out.trans ((((Below.refl wr.heap.size wr).alloc (Nat.le_refl _) _).trans (hA.mono (by simp))).mono hsz))
      have HOa := Lib.hid (owns_later (HO.out.alloc _) hA)
      clear hA
      have c0 := at_below HBa.out g1 HA.out.2.2.1
      have c1 := at_below HBa.out g1 HA.out.2.2.2
      have c0' : (wa.alloc (.cells #[.int .i64 x0, .int .i64 y0] 23)).cell? ⟨w.heap.size + 1, 0, none⟩ = some (.int .i64 c) := by rw [World.cell?_alloc_lt _ _ _ (World.block_lt_of_cell? _ _ c0)]; exact c0
      have c1' : (wa.alloc (.cells #[.int .i64 x0, .int .i64 y0] 23)).cell? ⟨w.heap.size + 1, 1, none⟩ = some (.int .i64 d) := by rw [World.cell?_alloc_lt _ _ _ (World.block_lt_of_cell? _ _ c1)]; exact c1
      go_wp2_with fail
      clear c0 c1 c0' c1'
      refine (B0.out _).out.mono ?_
      rintro e wb ⟨rfl, hB⟩
      have z9 : wa.heap.size < wb.heap.size := by have := hB.size; simp at this; omega
      have x0' : wb.cell? ⟨wa.heap.size, 0, none⟩ = some (.int .i64 x0) := cell_later hB (by go_simp)
      have x1' : wb.cell? ⟨wa.heap.size, 1, none⟩ = some (.int .i64 y0) := cell_later hB (by go_simp)
      have y0' : (wb.alloc (.cells #[.int .i64 u0, .int .i64 v0] 23)).cell? ⟨wa.heap.size, 0, none⟩ = some (.int .i64 x0) := by rw [World.cell?_alloc_lt _ _ _ (World.block_lt_of_cell? _ _ x0')]; exact x0'
      have y1' : (wb.alloc (.cells #[.int .i64 u0, .int .i64 v0] 23)).cell? ⟨wa.heap.size, 1, none⟩ = some (.int .i64 y0) := by rw [World.cell?_alloc_lt _ _ _ (World.block_lt_of_cell? _ _ x1')]; exact x1'
      have hsa : W0.heap.size ≤ wa.heap.size := by omega
      have HBb := Lib.hid (HBa.out.trans ((((Below.refl wa.heap.size wa).alloc (Nat.le_refl _) _).trans (hB.mono (by simp))).mono hsa))
      have HOb := Lib.hid (owns_later (HOa.out.alloc _) hB)
      clear hB q2 q3 HBa HOa HB HO
      cases s0 with
      | false =>
        go_wp2_with fail
        go_roundw
        case rel => exact .inr (.inl ⟨rfl, HBb.out.alloc (by omega) _, by have := HOb.out.alloc (.cells #[.int .i64 u0, .int .i64 v0] 23); rw [← HL.out] at this; simpa [optS] using this⟩)
        case measure => simp [intOf]
      | true =>
        cases m0 with
        | false =>
          go_wp2_with fail
          go_roundw
          case rel => exact .inr (.inl ⟨rfl, HBb.out.alloc (by omega) _, by have := HOb.out.alloc (.cells #[.int .i64 u0, .int .i64 v0] 23); rw [← HL.out] at this; simpa [optS] using this⟩)
          case measure => simp [intOf]
        | true =>
          go_wp2_with (at_builtin; refine wpList_append_lies _ rfl (.tmp 45) (.tmp 49) 124 rfl W0.heap.size 122 i0 _ 4 32 Try.underlying124 hi hz0 hz1 hz2 rfl (by omega) _ _ _ rfl ((HOb.out.alloc _).alloc _) ⟨_, 0, none⟩ 1 1 [.int .i64 x0, .int .i64 y0, .int .i64 u0, .int .i64 v0] rfl rfl (World.news_of_block (by have := heap_alloc_new (wb.alloc (.cells #[.int .i64 u0, .int .i64 v0] 23)) (.cells #[.int .i64 x0, .int .i64 y0, .int .i64 u0, .int .i64 v0] 122); simpa using this)) (by intro u hu; simp at hu; rcases hu with rfl | rfl | rfl | rfl <;> rfl) (by omega) (by unfold maxLen; omega) (by omega) (by simp; omega) _ rfl ?_)
          intro g9 cap1 wc hown1 hgrow1 hat1 hlt1
          have HBc := Lib.hid (below_grown (((HBb.out.alloc (by omega) _).alloc (by simp; omega) _)) hgrow1 (fun k hk => (HOb.out.lt k hk).1) (by simp; omega))
          have HOc := Lib.hid hown1
          clear hown1 hgrow1 hat1 HBb HOb x0' x1' y0' y1'
          go_wp2_with fail
          go_roundw
          case rel => exact .inr (.inl ⟨rfl, HBc.out, by have := HOc.out; rw [← HL.out] at this ⊢; simpa [optS, flat4] using this⟩)
          case measure => simp [intOf]
    · have HB := Lib.hid hb
      have HO := Lib.hid ho
      have hsz := hb.size
      clear hb ho
      have hln : (optS s0 m0 ⟨x0, y0, u0, v0⟩).length ≤ 1 := by unfold optS; repeat (first | split | simp)
      have HLN := Lib.hid (rfl : (optS s0 m0 ⟨x0, y0, u0, v0⟩).length = (optS s0 m0 ⟨x0, y0, u0, v0⟩).length)
      generalize hL : (optS s0 m0 ⟨x0, y0, u0, v0⟩) = L at *
      have HL := Lib.hid hL
      clear hL HLN
      have a0 := at_below HB.out g0 HA.out.1
      have a1 := at_below HB.out g0 HA.out.2.1
      have a0' : (wr.alloc (.cells #[.int .i64 (-9223372036854775807), .int .i64 9223372036854775807, .int .i64 (-1), .int .i64 (-1)] 122)).cell? ⟨w.heap.size, 0, none⟩ = some (.int .i64 a) := by rw [World.cell?_alloc_lt _ _ _ (World.block_lt_of_cell? _ _ a0)]; exact a0
      have a1' : (wr.alloc (.cells #[.int .i64 (-9223372036854775807), .int .i64 9223372036854775807, .int .i64 (-1), .int .i64 (-1)] 122)).cell? ⟨w.heap.size, 1, none⟩ = some (.int .i64 b) := by rw [World.cell?_alloc_lt _ _ _ (World.block_lt_of_cell? _ _ a1)]; exact a1
      have ix : ∀ w, (Instr.index 135 (.agg #[.int .i64 (-9223372036854775808), .int .i64 9223372036854775807, .int .i64 (-9223372036854775808), .int .i64 (-2), .int .i64 (-9223372036854775807), .int .i64 9223372036854775807, .int .i64 (-1), .int .i64 (-1), .int .i64 (-9223372036854775808), .int .i64 9223372036854775807, .int .i64 1, .int .i64 9223372036854775807]) (.int .i64 1)).run Try.prog w = .ok (.agg #[.int .i64 (-9223372036854775807), .int .i64 9223372036854775807, .int .i64 (-1), .int .i64 (-1)]) w := fun _ => by kernel_rfl
      go_wp2_with fail
      clear ix a0 a1 a0' a1'
      refine (A1.out _).out.mono ?_
      rintro e wa ⟨rfl, hA⟩
      have b9 : wr.heap.size < wa.heap.size := by have := hA.size; simp at this; omega
      have q2 : wa.cell? ⟨wr.heap.size, 2, none⟩ = some (.int .i64 (-1)) := cell_later hA (by go_simp)
      have q3 : wa.cell? ⟨wr.heap.size, 3, none⟩ = some (.int .i64 (-1)) := cell_later hA (by go_simp)
      have HBa := Lib.hid (HB.out.trans ((((Below.refl wr.heap.size wr).alloc (Nat.le_refl _) _).trans (hA.mono (by simp))).mono hsz))
      have HOa := Lib.hid (owns_later (HO.out.alloc _) hA)
      clear hA
      have c0 := at_below HBa.out g1 HA.out.2.2.1
      have c1 := at_below HBa.out g1 HA.out.2.2.2
      have c0' : (wa.alloc (.cells #[.int .i64 x1, .int .i64 y1] 23)).cell? ⟨w.heap.size + 1, 0, none⟩ = some (.int .i64 c) := by rw [World.cell?_alloc_lt _ _ _ (World.block_lt_of_cell? _ _ c0)]; exact c0
      have c1' : (wa.alloc (.cells #[.int .i64 x1, .int .i64 y1] 23)).cell? ⟨w.heap.size + 1, 1, none⟩ = some (.int .i64 d) := by rw [World.cell?_alloc_lt _ _ _ (World.block_lt_of_cell? _ _ c1)]; exact c1
      go_wp2_with fail
      clear c0 c1 c0' c1'
      refine (B1.out _).out.mono ?_
      rintro e wb ⟨rfl, hB⟩
      have z9 : wa.heap.size < wb.heap.size := by have := hB.size; simp at this; omega
      have x0' : wb.cell? ⟨wa.heap.size, 0, none⟩ = some (.int .i64 x1) := cell_later hB (by go_simp)
      have x1' : wb.cell? ⟨wa.heap.size, 1, none⟩ = some (.int .i64 y1) := cell_later hB (by go_simp)
      have y0' : (wb.alloc (.cells #[.int .i64 u1, .int .i64 v1] 23)).cell? ⟨wa.heap.size, 0, none⟩ = some (.int .i64 x1) := by rw [World.cell?_alloc_lt _ _ _ (World.block_lt_of_cell? _ _ x0')]; exact x0'
      have y1' : (wb.alloc (.cells #[.int .i64 u1, .int .i64 v1] 23)).cell? ⟨wa.heap.size, 1, none⟩ = some (.int .i64 y1) := by rw [World.cell?_alloc_lt _ _ _ (World.block_lt_of_cell? _ _ x1')]; exact x1'
      have hsa : W0.heap.size ≤ wa.heap.size := by omega
      have HBb := Lib.hid (HBa.out.trans ((((Below.refl wa.heap.size wa).alloc (Nat.le_refl _) _).trans (hB.mono (by simp))).mono hsa))
      have HOb := Lib.hid (owns_later (HOa.out.alloc _) hB)
      clear hB q2 q3 HBa HOa HB HO
      cases s1 with
      | false =>
        go_wp2_with fail
        go_roundw
        case rel => exact .inr (.inr (.inl ⟨rfl, HBb.out.alloc (by omega) _, by have := HOb.out.alloc (.cells #[.int .i64 u1, .int .i64 v1] 23); simpa [optS] using this⟩))
        case measure => simp [intOf]
      | true =>
        cases m1 with
        | false =>
          go_wp2_with fail
          go_roundw
          case rel => exact .inr (.inr (.inl ⟨rfl, HBb.out.alloc (by omega) _, by have := HOb.out.alloc (.cells #[.int .i64 u1, .int .i64 v1] 23); simpa [optS] using this⟩))
          case measure => simp [intOf]
        | true =>
          go_wp2_with (at_builtin; refine wpList_append_lies _ rfl (.tmp 45) (.tmp 49) 124 rfl W0.heap.size 122 i0 _ 4 32 Try.underlying124 hi hz0 hz1 hz2 rfl (by omega) _ _ _ rfl ((HOb.out.alloc _).alloc _) ⟨_, 0, none⟩ 1 1 [.int .i64 x1, .int .i64 y1, .int .i64 u1, .int .i64 v1] rfl rfl (World.news_of_block (by have := heap_alloc_new (wb.alloc (.cells #[.int .i64 u1, .int .i64 v1] 23)) (.cells #[.int .i64 x1, .int .i64 y1, .int .i64 u1, .int .i64 v1] 122); simpa using this)) (by intro u hu; simp at hu; rcases hu with rfl | rfl | rfl | rfl <;> rfl) (by omega) (by unfold maxLen; omega) (by omega) (by simp; omega) _ rfl ?_)
          intro g9 cap1 wc hown1 hgrow1 hat1 hlt1
          have HBc := Lib.hid (below_grown (((HBb.out.alloc (by omega) _).alloc (by simp; omega) _)) hgrow1 (fun k hk => (HOb.out.lt k hk).1) (by simp; omega))
          have HOc := Lib.hid hown1
          clear hown1 hgrow1 hat1 HBb HOb x0' x1' y0' y1'
          go_wp2_with fail
          go_roundw
          case rel => exact .inr (.inr (.inl ⟨rfl, HBc.out, by have := HOc.out; simpa [optS, flat4] using this⟩))
          case measure => simp [intOf]
    · have HB := Lib.hid hb
      have HO := Lib.hid ho
      have hsz := hb.size
      clear hb ho
      have hln : (optS s0 m0 ⟨x0, y0, u0, v0⟩ ++ optS s1 m1 ⟨x1, y1, u1, v1⟩).length ≤ 2 := by unfold optS; split <;> split <;> simp
      have HLN := Lib.hid (rfl : (optS s0 m0 ⟨x0, y0, u0, v0⟩ ++ optS s1 m1 ⟨x1, y1, u1, v1⟩).length = (optS s0 m0 ⟨x0, y0, u0, v0⟩ ++ optS s1 m1 ⟨x1, y1, u1, v1⟩).length)
      generalize hL : (optS s0 m0 ⟨x0, y0, u0, v0⟩ ++ optS s1 m1 ⟨x1, y1, u1, v1⟩) = L at *
      have HL := Lib.hid hL
      clear hL HLN
      have a0 := at_below HB.out g0 HA.out.1
      have a1 := at_below HB.out g0 HA.out.2.1
      have a0' : (wr.alloc (.cells #[.int .i64 (-9223372036854775808), .int .i64 9223372036854775807, .int .i64 1, .int .i64 9223372036854775807] 122)).cell? ⟨w.heap.size, 0, none⟩ = some (.int .i64 a) := by rw [World.cell?_alloc_lt _ _ _ (World.block_lt_of_cell? _ _ a0)]; exact a0
      have a1' : (wr.alloc (.cells #[.int .i64 (-9223372036854775808), .int .i64 9223372036854775807, .int .i64 1, .int .i64 9223372036854775807] 122)).cell? ⟨w.heap.size, 1, none⟩ = some (.int .i64 b) := by rw [World.cell?_alloc_lt _ _ _ (World.block_lt_of_cell? _ _ a1)]; exact a1
      have ix : ∀ w, (Instr.index 135 (.agg #[.int .i64 (-9223372036854775808), .int .i64 9223372036854775807, .int .i64 (-9223372036854775808), .int .i64 (-2), .int .i64 (-9223372036854775807), .int .i64 9223372036854775807, .int .i64 (-1), .int .i64 (-1), .int .i64 (-9223372036854775808), .int .i64 9223372036854775807, .int .i64 1, .int .i64 9223372036854775807]) (.int .i64 2)).run Try.prog w = .ok (.agg #[.int .i64 (-9223372036854775808), .int .i64 9223372036854775807, .int .i64 1, .int .i64 9223372036854775807]) w := fun _ => by kernel_rfl
      go_wp2_with fail
      clear ix a0 a1 a0' a1'
      refine (A2.out _).out.mono ?_
      rintro e wa ⟨rfl, hA⟩
      have b9 : wr.heap.size < wa.heap.size := by have := hA.size; simp at this; omega
      have q2 : wa.cell? ⟨wr.heap.size, 2, none⟩ = some (.int .i64 1) := cell_later hA (by go_simp)
      have q3 : wa.cell? ⟨wr.heap.size, 3, none⟩ = some (.int .i64 9223372036854775807) := cell_later hA (by go_simp)
      have HBa := Lib.hid (HB.out.trans ((((Below.refl wr.heap.size wr).alloc (Nat.le_refl _) _).trans (hA.mono (by simp))).mono hsz))
      have HOa := Lib.hid (owns_later (HO.out.alloc _) hA)
      clear hA
      have c0 := at_below HBa.out g1 HA.out.2.2.1
      have c1 := at_below HBa.out g1 HA.out.2.2.2
      have c0' : (wa.alloc (.cells #[.int .i64 x2, .int .i64 y2] 23)).cell? ⟨w.heap.size + 1, 0, none⟩ = some (.int .i64 c) := by rw [World.cell?_alloc_lt _ _ _ (World.block_lt_of_cell? _ _ c0)]; exact c0
      have c1' : (wa.alloc (.cells #[.int .i64 x2, .int .i64 y2] 23)).cell? ⟨w.heap.size + 1, 1, none⟩ = some (.int .i64 d) := by rw [World.cell?_alloc_lt _ _ _ (World.block_lt_of_cell? _ _ c1)]; exact c1
      go_wp2_with fail
      clear c0 c1 c0' c1'
      refine (B2.out _).out.mono ?_
      rintro e wb ⟨rfl, hB⟩
      have z9 : wa.heap.size < wb.heap.size := by have := hB.size; simp at this; omega
      have x0' : wb.cell? ⟨wa.heap.size, 0, none⟩ = some (.int .i64 x2) := cell_later hB (by go_simp)
      have x1' : wb.cell? ⟨wa.heap.size, 1, none⟩ = some (.int .i64 y2) := cell_later hB (by go_simp)
      have y0' : (wb.alloc (.cells #[.int .i64 u2, .int .i64 v2] 23)).cell? ⟨wa.heap.size, 0, none⟩ = some (.int .i64 x2) := by rw [World.cell?_alloc_lt _ _ _ (World.block_lt_of_cell? _ _ x0')]; exact x0'
      have y1' : (wb.alloc (.cells #[.int .i64 u2, .int .i64 v2] 23)).cell? ⟨wa.heap.size, 1, none⟩ = some (.int .i64 y2) := by rw [World.cell?_alloc_lt _ _ _ (World.block_lt_of_cell? _ _ x1')]; exact x1'
      have hsa : W0.heap.size ≤ wa.heap.size := by omega
      have HBb := Lib.hid (HBa.out.trans ((((Below.refl wa.heap.size wa).alloc (Nat.le_refl _) _).trans (hB.mono (by simp))).mono hsa))
      have HOb := Lib.hid (owns_later (HOa.out.alloc _) hB)
      clear hB q2 q3 HBa HOa HB HO
      cases s2 with
      | false =>
        go_wp2_with fail
        go_roundw
        case rel => exact .inr (.inr (.inr (⟨rfl, HBb.out.alloc (by omega) _, by have := HOb.out.alloc (.cells #[.int .i64 u2, .int .i64 v2] 23); simpa [optS] using this⟩)))
        case measure => simp [intOf]
      | true =>
        cases m2 with
        | false =>
          go_wp2_with fail
          go_roundw
          case rel => exact .inr (.inr (.inr (⟨rfl, HBb.out.alloc (by omega) _, by have := HOb.out.alloc (.cells #[.int .i64 u2, .int .i64 v2] 23); simpa [optS] using this⟩)))
          case measure => simp [intOf]
        | true =>
          go_wp2_with (at_builtin; refine wpList_append_lies _ rfl (.tmp 45) (.tmp 49) 124 rfl W0.heap.size 122 i0 _ 4 32 Try.underlying124 hi hz0 hz1 hz2 rfl (by omega) _ _ _ rfl ((HOb.out.alloc _).alloc _) ⟨_, 0, none⟩ 1 1 [.int .i64 x2, .int .i64 y2, .int .i64 u2, .int .i64 v2] rfl rfl (World.news_of_block (by have := heap_alloc_new (wb.alloc (.cells #[.int .i64 u2, .int .i64 v2] 23)) (.cells #[.int .i64 x2, .int .i64 y2, .int .i64 u2, .int .i64 v2] 122); simpa using this)) (by intro u hu; simp at hu; rcases hu with rfl | rfl | rfl | rfl <;> rfl) (by omega) (by unfold maxLen; omega) (by omega) (by simp; omega) _ rfl ?_)
          intro g9 cap1 wc hown1 hgrow1 hat1 hlt1
          have HBc := Lib.hid (below_grown (((HBb.out.alloc (by omega) _).alloc (by simp; omega) _)) hgrow1 (fun k hk => (HOb.out.lt k hk).1) (by simp; omega))
          have HOc := Lib.hid hown1
          clear hown1 hgrow1 hat1 HBb HOb x0' x1' y0' y1'
          go_wp2_with fail
          go_roundw
          case rel => exact .inr (.inr (.inr (⟨rfl, HBc.out, by have := HOc.out; simpa [optS, flat4] using this⟩)))
          case measure => simp [intOf]
    · have HB := Lib.hid hb
      have HO := Lib.hid ho
      clear hb ho
      go_wp2
      go_ret
      exact ⟨_, rfl, owns_base HO.out (by omega), BL.out.trans (HB.out.mono (by omega))⟩

end Go.Proofs.Ytomjcpgjlhencaa
