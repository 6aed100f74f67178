/- The contracts of the program's Uses, the reference's Uses and the law at a phi. -/
import Derived.Test.YtlcnpcaeoahobaaGreatDoorIuP
section
set_option linter.unusedVariables false
set_option linter.unusedSimpArgs false
namespace Go.Proofs.YtlcnpcaeoahobaaGreatDoor
open Go Go.Ev Go.RowKit

set_option maxRecDepth 100000 in
set_option maxHeartbeats 2000000 in
theorem ref_uses10 {A p2 p3 : Option Addr} {n c n2 c2 n3 c3 : Nat} {s0 s1 s2 s3 s4 s5 s6 s7 s8 : Int} {os : List (Int × Int)} {w : World} (hO : Opds w A n c os) (hn : n ≤ 500) :
    Calls Tryz.prog 6 #[.agg #[.int .i64 10, .int .i64 s0, .int .i64 s1, .int .i64 s2, .int .i64 s3, .int .i64 s4, .int .i64 s5, .int .i64 s6, .int .i64 s7, .int .i64 s8, .slice A n c, .slice p2 n2 c2, .slice p3 n3 c3]] w (UsesOut os s1 w) := by
  obtain ⟨i0, hi, hz0, hz1, hz2⟩ := info_parts info3
  have HO := Lib.hid hO
  clear hO
  go_enter Tryz.func6, Tryz.ntmps6
  go_wp2_with fail
  have hB : Below w.heap.size w (w.alloc (.cells #[.int .i64 10, .int .i64 s0, .int .i64 s1, .int .i64 s2, .int .i64 s3, .int .i64 s4, .int .i64 s5, .int .i64 s6, .int .i64 s7, .int .i64 s8, .slice A n c, .slice p2 n2 c2, .slice p3 n3 c3] 27)) := (Below.refl _ _).alloc (Nat.le_refl _) _
  have hS : (w.alloc (.cells #[.int .i64 10, .int .i64 s0, .int .i64 s1, .int .i64 s2, .int .i64 s3, .int .i64 s4, .int .i64 s5, .int .i64 s6, .int .i64 s7, .int .i64 s8, .slice A n c, .slice p2 n2 c2, .slice p3 n3 c3] 27)).heap.size = w.heap.size + 1 := by simp
  generalize (w.alloc (.cells #[.int .i64 10, .int .i64 s0, .int .i64 s1, .int .i64 s2, .int .i64 s3, .int .i64 s4, .int .i64 s5, .int .i64 s6, .int .i64 s7, .int .i64 s8, .slice A n c, .slice p2 n2 c2, .slice p3 n3 c3] 27)) = W0 at *
  have HW := Lib.hid hB
  have HS := Lib.hid hS
  clear hB hS
  go_loopw [2, 5] (fun v i wr => ∃ k : Nat, i = .int .i64 k ∧ k ≤ n ∧ Below W0.heap.size W0 wr ∧ wr.ownsRow W0.heap.size 3 1 v (regs (os.take k)).length (cellsI (regs (os.take k)))) (fun _ i _ => (n - intOf i).toNat)
  case atStart => exact ⟨0, rfl, Nat.zero_le _, Below.refl _ _, World.ownsRow_nil _ _ _ _⟩
  case round =>
    obtain ⟨k, rfl, hk, hb, hown⟩ := hrel
    by_cases hlt : k < n
    · have h1 : ∃ ad, A = some ad ∧ wr.cell? (ad.add (k * 2)) = some (.int .i64 (os.getD k (0, 0)).1) := by
        obtain ⟨ad, e, h1, _⟩ := ((HO.out.later HW.out)).get k hlt
        exact ⟨ad, e, (hb.cell (World.block_lt_of_cell? _ _ h1)).trans h1⟩
      obtain ⟨ad, rfl, hc⟩ := h1
      have rle := regs_le os k
      have hHit := fun h => Lib.hid (regs_hit (os := os) (k := k) (by rw [HO.out.len]; exact hlt) h)
      have hMiss := fun h => Lib.hid (regs_miss (os := os) (k := k) (by rw [HO.out.len]; exact hlt) h)
      have HB := Lib.hid hb
      have HN := Lib.hid hown
      clear hb hown
      generalize (os.getD k (0, 0)).1 = r at *
      by_cases h0 : 0 ≤ r
      · have H := hHit h0
        clear hHit hMiss
        generalize hl : regs (os.take k) = l at *
        go_wp2_with (at_builtin; refine wpList_append_lies _ rfl (.tmp 60) (.tmp 66) 25 rfl W0.heap.size 3 i0 _ 1 8 Tryz.underlying25 hi hz0 hz1 hz2 rfl (by omega) _ _ _ rfl (HN.out.alloc _) ⟨_, 0, none⟩ 1 1 [.int .i64 r] rfl rfl (World.news_of_block (heap_alloc_new _ _)) (by intro u hu; simp at hu; subst hu; rfl) (by omega) (by unfold maxLen; omega) (by omega) (by have := HB.out.size; simp; omega) _ rfl ?_)
        intro g1 cap1 w1 hown1 hgrow1 hat1 hlt1
        have HB1 := Lib.hid ((HB.out.alloc HB.out.size _).grown hgrow1 (by have := HB.out.size; simp; omega) (fun j hj => (HN.out.lt j hj).1))
        have HN1 := Lib.hid hown1
        clear hown1 hgrow1 hat1 hlt1
        go_wp2_with fail
        go_roundw
        case rel => exact ⟨k + 1, by go_num, by omega, HB1.out, by rw [H.out]; simpa [cellsI] using HN1.out⟩
        case measure => simp [intOf]; omega
      · have H := hMiss h0
        clear hHit hMiss
        go_wp2_with fail
        go_roundw
        case rel => exact ⟨k + 1, by go_num, by omega, HB.out, by rw [H.out]; exact HN.out⟩
        case measure => simp [intOf]; omega
    · obtain rfl : k = n := by omega
      have hS := HS.out
      have HB := Lib.hid (HW.out.trans (hb.mono (by omega)))
      have HN := Lib.hid (owns_mono hown (show w.heap.size ≤ W0.heap.size by omega))
      clear hb hown hS
      rw [← HO.out.len, regs_all] at HN
      go_wp2_with fail
      refine bodyPost_ret (v := .tuple #[u2, .int .i64 (max s1 (-1))]) (by simp [results, Tryz.results6, go_sem]) rfl ⟨_, rfl, HN.out, HB.out⟩
end Go.Proofs.YtlcnpcaeoahobaaGreatDoor
end
section
set_option linter.unusedVariables false
set_option linter.unusedSimpArgs false
namespace Go.Proofs.YtlcnpcaeoahobaaGreatDoor
open Go Go.Ev Go.RowKit

set_option maxRecDepth 100000 in
set_option maxHeartbeats 4000000 in
theorem prog_uses10 {A p2 p3 : Option Addr} {n c n2 c2 n3 c3 : Nat} {s0 s1 s2 s3 s4 s5 s6 s7 s8 : Int} {os : List (Int × Int)} {w : World} (hL : Laid w) (hO : Opds w A n c os) (hn : n ≤ 500) :
    Calls Tryz.prog 5 #[.agg #[.int .i64 10, .int .i64 s0, .int .i64 s1, .int .i64 s2, .int .i64 s3, .int .i64 s4, .int .i64 s5, .int .i64 s6, .int .i64 s7, .int .i64 s8, .slice A n c, .slice p2 n2 c2, .slice p3 n3 c3]] w (UsesOut os s1 w) := by
  obtain ⟨i0, hi, hz0, hz1, hz2⟩ := info_parts info3
  obtain ⟨i1, hi1, hy0, hy1, hy2⟩ := info_parts info23
  have HO := Lib.hid hO
  have HL := Lib.hid hL
  clear hO hL
  go_enter Tryz.func5, Tryz.ntmps5
  go_wp2_with fail
  have J : In5 w (w.alloc (.cells #[.int .i64 10, .int .i64 s0, .int .i64 s1, .int .i64 s2, .int .i64 s3, .int .i64 s4, .int .i64 s5, .int .i64 s6, .int .i64 s7, .int .i64 s8, .slice A n c, .slice p2 n2 c2, .slice p3 n3 c3] 27)) 10 s1 A n c := ⟨by go_simp, by go_simp, by go_simp, (Below.refl _ _).alloc (Nat.le_refl _) _, by simp⟩
  generalize (w.alloc (.cells #[.int .i64 10, .int .i64 s0, .int .i64 s1, .int .i64 s2, .int .i64 s3, .int .i64 s4, .int .i64 s5, .int .i64 s6, .int .i64 s7, .int .i64 s8, .slice A n c, .slice p2 n2 c2, .slice p3 n3 c3] 27)) = W0 at *
  refine (isop_calls10 (J.laid HL.out)).mono ?_
  rintro e w1 ⟨rfl, hb1⟩
  have J1 := J.later J.sz hb1
  clear hb1 J W0
  have C0 := J1.c0
  have hz : 8 ≤ w1.heap.size := (J1.laid HL.out).size
  have T0 : w1.cell? ⟨0, 90, none⟩ = some (.bool false) := (J1.laid HL.out).t0 _ _ rfl
  have T1 : w1.cell? ⟨0, 91, none⟩ = some (.bool true) := (J1.laid HL.out).t0 _ _ rfl
  have T2 : w1.cell? ⟨0, 92, none⟩ = some (.bool false) := (J1.laid HL.out).t0 _ _ rfl
  have T3 : w1.cell? ⟨0, 93, none⟩ = some (.bool false) := (J1.laid HL.out).t0 _ _ rfl
  have T4 : w1.cell? ⟨0, 94, none⟩ = some (.bool false) := (J1.laid HL.out).t0 _ _ rfl
  have T5 : w1.cell? ⟨0, 95, none⟩ = some (.bool false) := (J1.laid HL.out).t0 _ _ rfl
  have T6 : w1.cell? ⟨0, 96, none⟩ = some (.bool false) := (J1.laid HL.out).t0 _ _ rfl
  have T7 : w1.cell? ⟨0, 97, none⟩ = some (.bool true) := (J1.laid HL.out).t0 _ _ rfl
  have T8 : w1.cell? ⟨0, 98, none⟩ = some (.bool true) := (J1.laid HL.out).t0 _ _ rfl
  have C10 := J1.c10
  have SZ := J1.sz
  have HJ := Lib.hid J1
  clear J1
  go_wp2_with (at_builtin; refine wpList_append_opds rfl (.tmp 32) (.tmp 34) rfl rfl rfl (HO.out.later (HJ.out.bl.alloc HJ.out.bl.size _)) hn (w1.heap.size + 1) (by simp) ?_)
  intro v w2 hown hgrow
  have J2 := HJ.out.later HJ.out.sz (((Below.refl w1.heap.size w1).alloc (Nat.le_refl _) _).grown hgrow (by simp) (fun k hk => by cases hk))
  have S1 : w2.cell? ⟨w1.heap.size, 1, none⟩ = some (.bool true) := (hgrow.cell_far ⟨_, 1, none⟩ (by simp) (by simp)).trans (by go_simp)
  have B2 : w1.heap.size < w2.heap.size := by have := hgrow.size; simp at this; omega
  obtain ⟨o, cap, rfl, hR⟩ := own_opds hown HO.out.len
  clear hown hgrow T0 T1 T2 T3 T4 T5 T6 T7 T8 C0 C10 HJ
  generalize w1.heap.size = b1 at *
  have HR := Lib.hid hR
  have HJ := Lib.hid J2
  have HS := Lib.hid S1
  clear hR J2 S1
  go_wp2_with fail
  go_loopw [2, 38] (fun v i wr => ∃ k : Nat, i = .int .i64 k ∧ k ≤ n ∧ Below w2.heap.size w2 wr ∧ wr.ownsRow w2.heap.size 3 1 v (regs (os.take k)).length (cellsI (regs (os.take k)))) (fun _ i _ => (n - intOf i).toNat)
  case atStart => exact ⟨0, rfl, Nat.zero_le _, Below.refl _ _, World.ownsRow_nil _ _ _ _⟩
  case round =>
    obtain ⟨k, rfl, hk, hb, hown⟩ := hrel
    by_cases hlt : k < n
    · have h1 : ∃ g, o = some ⟨g, 0, none⟩ ∧ wr.cell? ⟨g, k * 2, none⟩ = some (.int .i64 (os.getD k (0, 0)).1) ∧ wr.cell? ⟨g, k * 2 + 1, none⟩ = some (.int .i64 (os.getD k (0, 0)).2) := by
        obtain ⟨g, e, h1, h2⟩ := HR.out k hlt
        exact ⟨g, e, (hb.cell (World.block_lt_of_cell? _ _ h1)).trans h1, (hb.cell (World.block_lt_of_cell? _ _ h2)).trans h2⟩
      obtain ⟨g, rfl, hc, hc2⟩ := h1
      have rle := regs_le os k
      have hHit := fun h => Lib.hid (regs_hit (os := os) (k := k) (by rw [HO.out.len]; exact hlt) h)
      have hMiss := fun h => Lib.hid (regs_miss (os := os) (k := k) (by rw [HO.out.len]; exact hlt) h)
      have HB := Lib.hid hb
      have HN := Lib.hid hown
      clear hb hown
      generalize (os.getD k (0, 0)).1 = r at *
      generalize (os.getD k (0, 0)).2 = q at *
      by_cases h0 : 0 ≤ r
      · have H := hHit h0
        clear hHit hMiss
        generalize hl : regs (os.take k) = l at *
        go_wp2_with (at_builtin; refine wpList_append_lies _ rfl (.tmp 45) (.tmp 48) 25 rfl w2.heap.size 3 i0 _ 1 8 Tryz.underlying25 hi hz0 hz1 hz2 rfl (by omega) _ _ _ rfl ((HN.out.alloc _).alloc _) ⟨_, 0, none⟩ 1 1 [.int .i64 r] rfl rfl (World.news_of_block (by have := heap_alloc_new (wr.alloc (.cells #[.int .i64 r, .int .i64 q] 23)) (.cells #[.int .i64 r] 3); simpa using this)) (by intro u hu; simp at hu; subst hu; rfl) (by omega) (by unfold maxLen; omega) (by omega) (by have := HB.out.size; simp; omega) _ rfl ?_)
        intro g1 cap1 w3 hown1 hgrow1 hat1 hlt1
        have HB1 := Lib.hid (((HB.out.alloc HB.out.size _).alloc (by have := HB.out.size; simp; omega) _).grown hgrow1 (by have := HB.out.size; simp; omega) (fun j hj => (HN.out.lt j hj).1))
        have HN1 := Lib.hid hown1
        clear hown1 hgrow1 hat1 hlt1
        go_wp2_with fail
        go_roundw
        case rel => exact ⟨k + 1, by go_num, by omega, HB1.out, by rw [H.out]; simpa [cellsI] using HN1.out⟩
        case measure => simp [intOf]; omega
      · have H := hMiss h0
        clear hHit hMiss
        go_wp2_with fail
        go_roundw
        case rel => exact ⟨k + 1, by go_num, by omega, HB.out.alloc HB.out.size _, by rw [H.out]; exact HN.out.alloc _⟩
        case measure => simp [intOf]; omega
    · obtain rfl : k = n := by omega
      have HJ2 := Lib.hid (HJ.out.later (Nat.lt_trans SZ B2) hb)
      have C2 := HJ2.out.c2
      have S2 := at_below hb B2 HS.out
      have HN := Lib.hid (owns_mono hown (show w.heap.size ≤ w2.heap.size by omega))
      clear hb hown
      rw [← HO.out.len, regs_all] at HN
      go_wp2_with fail
      go_region
      go_wp2_with fail
      refine bodyPost_ret (v := .tuple #[u2, .int .i64 (max s1 (-1))]) (by simp [results, Tryz.results5, go_sem]) rfl ⟨_, rfl, HN.out, HJ2.out.bl.drew⟩
end Go.Proofs.YtlcnpcaeoahobaaGreatDoor
end
section
set_option linter.unusedVariables false
set_option linter.unusedSimpArgs false
namespace Go.Proofs.YtlcnpcaeoahobaaGreatDoor
open Go Go.Ev Go.RowKit

set_option maxRecDepth 100000 in
set_option maxHeartbeats 4000000 in
theorem law_uses10 {A p2 p3 : Option Addr} {n c n2 c2 n3 c3 : Nat} {s0 s1 s2 s3 s4 s5 s6 s7 s8 : Int} {os : List (Int × Int)} {w : World} (hL : Laid w) (hO : Opds w A n c os) (hn : n ≤ 500) :
    Calls Tryz.prog 3 #[.agg #[.int .i64 10, .int .i64 s0, .int .i64 s1, .int .i64 s2, .int .i64 s3, .int .i64 s4, .int .i64 s5, .int .i64 s6, .int .i64 s7, .int .i64 s8, .slice A n c, .slice p2 n2 c2, .slice p3 n3 c3]] w (Yes w) := by
  have HO := Lib.hid hO
  have HL := Lib.hid hL
  clear hO hL
  go_enter Tryz.func3, Tryz.ntmps3
  go_wp2_with fail
  have J : Box3 w (w.alloc (.cells #[.int .i64 10, .int .i64 s0, .int .i64 s1, .int .i64 s2, .int .i64 s3, .int .i64 s4, .int .i64 s5, .int .i64 s6, .int .i64 s7, .int .i64 s8, .slice A n c, .slice p2 n2 c2, .slice p3 n3 c3] 27)) #[.int .i64 10, .int .i64 s0, .int .i64 s1, .int .i64 s2, .int .i64 s3, .int .i64 s4, .int .i64 s5, .int .i64 s6, .int .i64 s7, .int .i64 s8, .slice A n c, .slice p2 n2 c2, .slice p3 n3 c3] := ⟨heap_alloc_new _ _, (Below.refl _ _).alloc (Nat.le_refl _) _, by simp⟩
  generalize (w.alloc (.cells #[.int .i64 10, .int .i64 s0, .int .i64 s1, .int .i64 s2, .int .i64 s3, .int .i64 s4, .int .i64 s5, .int .i64 s6, .int .i64 s7, .int .i64 s8, .slice A n c, .slice p2 n2 c2, .slice p3 n3 c3] 27)) = W0 at *
  refine (prog_uses10 (HL.out.below J.bl) (HO.out.later J.bl) hn).mono ?_
  rintro e w1 ⟨v1, rfl, hv1, hb1⟩
  have J1 := Lib.hid (J.later J.sz hb1)
  have HV1 := Lib.hid (owns_mono hv1 (Nat.le_of_lt J.sz))
  clear J hb1 hv1 W0
  obtain ⟨o1, cap1, rfl, hR1⟩ := own_regs HV1.out
  have D0 := J1.out.cell 0 _ rfl
  have D1 := J1.out.cell 1 _ rfl
  have D2 := J1.out.cell 2 _ rfl
  have D3 := J1.out.cell 3 _ rfl
  have D4 := J1.out.cell 4 _ rfl
  have D5 := J1.out.cell 5 _ rfl
  have D6 := J1.out.cell 6 _ rfl
  have D7 := J1.out.cell 7 _ rfl
  have D8 := J1.out.cell 8 _ rfl
  have D9 := J1.out.cell 9 _ rfl
  have D10 := J1.out.cell 10 _ rfl
  have D11 := J1.out.cell 11 _ rfl
  have D12 := J1.out.cell 12 _ rfl
  have HR1 := Lib.hid hR1
  clear hR1 HV1
  go_wp2_with fail
  refine (ref_uses10 (HO.out.later J1.out.bl) hn).mono ?_
  clear D0 D1 D2 D3 D4 D5 D6 D7 D8 D9 D10 D11 D12
  rintro e w2 ⟨v2, rfl, hv2, hb2⟩
  obtain ⟨o2, cap2, rfl, hR2⟩ := own_regs hv2
  have hR3 : ∀ k, k < (regs os).length → ∃ g, o1 = some ⟨g, 0, none⟩ ∧ w2.cell? ⟨g, k, none⟩ = some (.int .i64 ((regs os).getD k 0)) := fun k hk => by
    obtain ⟨g, e, h⟩ := HR1.out k hk
    exact ⟨g, e, (hb2.cell (World.block_lt_of_cell? _ _ h)).trans h⟩
  have HR2 := Lib.hid hR2
  have HR3 := Lib.hid hR3
  have HB := Lib.hid (J1.out.bl.trans (hb2.mono (Nat.le_of_lt J1.out.sz)))
  have hlen := HO.out.len
  clear hR2 hR3 HR1 hv2 hb2 J1 HO
  have hm : (regs os).length ≤ 500 := by have := regs_le os os.length; rw [regs_all] at this; omega
  generalize regs os = l at *
  generalize max s1 (-1) = t at *
  go_wp2_with fail
  go_loopw [7] (fun i wr => ∃ k : Nat, i = .int .i64 k ∧ k ≤ l.length ∧ Below w2.heap.size w2 wr) (fun i _ => (l.length - intOf i).toNat)
  case atStart => exact ⟨0, rfl, Nat.zero_le _, Below.refl _ _⟩
  case round =>
    obtain ⟨k, rfl, hk, hb⟩ := hrel
    by_cases hlt : k < l.length
    · obtain ⟨g1, rfl, c1⟩ := HR3.out k hlt
      obtain ⟨g2, rfl, c2⟩ := HR2.out k hlt
      have d1 := (hb.cell (World.block_lt_of_cell? _ _ c1)).trans c1
      have d2 := (hb.cell (World.block_lt_of_cell? _ _ c2)).trans c2
      have HB2 := Lib.hid hb
      clear c1 c2 hb
      generalize l.getD k 0 = r at *
      go_wp2_with fail
      go_region
      go_wp2_with fail
      go_roundw
      case rel => exact ⟨k + 1, by go_num, by omega, HB2.out.drew⟩
      case measure => simp [intOf]; omega
    · obtain rfl : k = l.length := by omega
      have HB2 := Lib.hid (HB.out.trans (hb.mono HB.out.size))
      clear hb
      go_wp2_with fail
      refine (awake_calls (HL.out.below HB2.out)).mono ?_
      rintro e w3 ⟨rfl, hb3⟩
      go_wp2_with fail
      refine bodyPost_ret (v := .bool true) (by simp [results, Tryz.results3, go_sem]) rfl ⟨rfl, HB2.out.trans (hb3.mono HB2.out.size)⟩
end Go.Proofs.YtlcnpcaeoahobaaGreatDoor
end
