/- A part of the proof of TacG. -/
import Derived.Test.YtbkojaiecgdodaaDoorDeD
section
set_option linter.unusedVariables false
set_option linter.unusedSimpArgs false
namespace Go.Proofs.YtbkojaiecgdodaaDoor
open Go Go.Ev Go.RowKit
section
variable {w : World} {B o n c at_ : Nat} {W op d a b m : Int} {V0 : Value}
set_option maxRecDepth 100000 in
set_option maxHeartbeats 8000000 in
theorem dec_ref_a {V m2 : Int} (hL : Laid w) (hB : B < w.heap.size) (hlt : at_ < n) (hc : ∀ k, k < 2 → w.cell? ⟨B, o + (at_ + k), none⟩ = some (.int .u64 ([W, V].getD k 0))) (hn : n ≤ 400) (hat : at_ + 2 ≤ n) (e0 : bits .and .u64 W 255 = op) (w0 : wrap64 op = op) (e1 : bits .and .u64 (W / 256) 15 = d) (w1 : wrap64 d = d) (e2 : bits .and .u64 (W / 4096) 15 = a) (w2 : wrap64 a = a) (e3 : bits .and .u64 (W / 65536) 15 = b) (w3 : wrap64 b = b) (e4 : wrap64 W / 4294967296 = m) (h3 : op = 3) (hm : (at_ : Int) + 1 < n) (e5 : wrap64 V = m2)
    (hf : (⟨op, d, a, b, m2⟩ : MI).fits) (hA : (⟨op, d, a, b, m2⟩ : MI).ok ∧ wds ⟨op, d, a, b, m2⟩ = [W, V] → V0 = .tuple #[.agg #[.int .i64 op, .int .i64 d, .int .i64 a, .int .i64 b, .int .i64 m2], .int .i64 (at_ + 2), .int .i64 0]) (hR : ¬ ((⟨op, d, a, b, m2⟩ : MI).ok ∧ wds ⟨op, d, a, b, m2⟩ = [W, V]) → V0 = .tuple #[.agg #[.int .i64 0, .int .i64 0, .int .i64 0, .int .i64 0, .int .i64 0], .int .i64 0, .int .i64 6]) :
    Calls Tryd.prog 15 #[.slice (some ⟨B, o, none⟩) n c, .int .i64 at_] w fun e w' => e = .returned V0 ∧ Below w.heap.size w w' := by
  have hadd := add_none B o at_
  have h3' : (op == 3) = true := by simpa using h3
  have H3 := Lib.hid h3
  clear h3
  have hadd2 := add_none B o (at_ + 1)
  have HC := Lib.hid hc
  have hA := Lib.hid hA
  have hR := Lib.hid hR
  have HL := Lib.hid hL
  have hcw := hc 0 (by decide)
  simp only [Nat.add_zero] at hcw
  have hc1 := cell_a1 hcw
  have hd1 := cell_a1 (hc 1 (by decide))
  clear hc hL hcw
  go_enter Tryd.func15, Tryd.ntmps15
  go_wp2_with fail
  have hBX : Below w.heap.size w (w.alloc (.cells #[.int .i64 op, .int .i64 d, .int .i64 a, .int .i64 b, .int .i64 m2] 26)) := (Below.refl _ _).alloc (Nat.le_refl _) _
  have hW := heap_alloc_new w (.cells #[.int .i64 op, .int .i64 d, .int .i64 a, .int .i64 b, .int .i64 m2] 26)
  have hsz : w.heap.size < (w.alloc (.cells #[.int .i64 op, .int .i64 d, .int .i64 a, .int .i64 b, .int .i64 m2] 26)).heap.size := by simp
  generalize w.alloc (.cells #[.int .i64 op, .int .i64 d, .int .i64 a, .int .i64 b, .int .i64 m2] 26) = W1 at *
  by_cases hok : (⟨op, d, a, b, m2⟩ : MI).ok
  · refine (v10_t (HL.out.below hBX) hf hok).mono ?_
    rintro e w2 ⟨rfl, hb2⟩
    have hW2 := (hb2.block w.heap.size hsz).trans hW
    obtain ⟨r0, r1, r2, r3, r4⟩ := row5 (x := ⟨op, d, a, b, m2⟩) hW2
    have hB2 := Lib.hid (hBX.trans (hb2.mono (by omega)))
    have hsz2 : w.heap.size < w2.heap.size := Nat.lt_of_lt_of_le hsz hb2.size
    clear hb2 hBX hW
    go_wp2_with fail
    refine (words_ref ⟨op, d, a, b, m2⟩ hok).mono ?_
    rintro e w3 ⟨v', rfl, hown, hb3⟩
    obtain ⟨o', cap', rfl, hcap, hcf⟩ := owns_form hown
    have hlw : (wds ⟨op, d, a, b, m2⟩).length = 2 := by unfold wds; rw [if_pos (by exact H3.out)]; rfl
    rcases hcf with ⟨h0, _⟩ | ⟨g', rfl, hg1, hg2, hcells⟩
    · omega
    have hl : ∀ k, k < 2 → w3.cell? ⟨g', k, none⟩ = some (.int .u64 ((wds ⟨op, d, a, b, m2⟩).getD k 0)) := fun k hk => hcells k _ (by simp [cellsU, List.getD, List.getElem?_eq_getElem (show k < (wds ⟨op, d, a, b, m2⟩).length by omega)])
    have hW3 := Lib.hid ((hb3.block w.heap.size hsz2).trans hW2)
    have hB3 := Lib.hid (hB2.out.trans (hb3.mono (by omega)))
    have HW := Lib.hid hl
    have hsz3 : w.heap.size < w3.heap.size := Nat.lt_of_lt_of_le hsz2 hb3.size
    clear hown hb3 hcells hl r0 r1 r2 r3 r4 hW2 hB2
    generalize hwd : wds ⟨op, d, a, b, m2⟩ = l at *
    rw [hlw]
    go_wp2_with fail
    go_loopw [5, 9] (fun v i wr => ∃ k : Nat, v = .int .i64 (at_ + 2) ∧ i = .int .i64 k ∧ k ≤ 2 ∧ Below w3.heap.size w3 wr ∧ ∀ j, j < k → l.getD j 0 = [W, V].getD j 0) (fun _ i _ => (2 - intOf i).toNat)
    case atStart => exact ⟨0, rfl, rfl, Nat.zero_le _, Below.refl _ _, fun j hj => absurd hj (Nat.not_lt_zero _)⟩
    case round =>
      obtain ⟨k, rfl, rfl, hk, hb, hall⟩ := hrel
      have hWr := (hb.block w.heap.size hsz3).trans hW3.out
      have HBr := Lib.hid (hB3.out.trans (hb.mono (by omega)))
      by_cases hlk : k < 2
      · have d1 := HW.out k hlk
        have d2 := HC.out k hlk
        have f1 := (hb.cell (World.block_lt_of_cell? _ _ d1)).trans d1
        have f2 := (HBr.out.cell (p := ⟨B, o + (at_ + k), none⟩) hB).trans d2
        have ha2 := add_none B o (at_ + k)
        have hb1 : (at_ : Int) + k < n := by omega
        have HB2 := Lib.hid hb
        have HA := Lib.hid hall
        clear d1 d2 hb hall
        by_cases hq : l.getD k 0 = [W, V].getD k 0
        · rw [← hq] at f2
          generalize hr : l.getD k 0 = r at *
          clear hWr
          go_wp2_with fail
          go_region
          go_wp2_with fail
          go_roundw
          case rel => exact ⟨k + 1, rfl, by go_num, by omega, HB2.out.drew, fun j hj => by
            rcases Nat.lt_or_ge j k with h | h
            · exact HA.out j h
            · obtain rfl : j = k := by omega
              rw [hr]; exact hq⟩
          case measure => simp [intOf]; omega
        · have hne : ¬ l = [W, V] := fun h => hq (by rw [h])
          have hq' : (l.getD k 0 == [W, V].getD k 0) = false := by simpa using hq
          generalize l.getD k 0 = r at *
          generalize [W, V].getD k 0 = s at *
          have hWd : wr.drew.heap[w.heap.size]? = _ := hWr
          have HBd := HBr.out.drew
          clear hWr
          go_wp2_with fail
          go_region
          generalize wr.drew = wd at *
          obtain ⟨hfz, g0, g1, g2, g3, g4⟩ := free5 hWd
          have z0 := hfz 0 (by decide)
          have z1 := hfz 1 (by decide)
          have z2 := hfz 2 (by decide)
          have z3 := hfz 3 (by decide)
          have z4 := hfz 4 (by decide)
          have hch := chain5 (a0 := .int .i64 0) (a1 := .int .i64 0) (a2 := .int .i64 0) (a3 := .int .i64 0) (a4 := .int .i64 0) hWd
          obtain ⟨q0, q1, q2, q3, q4⟩ := after5 (a0 := .int .i64 0) (a1 := .int .i64 0) (a2 := .int .i64 0) (a3 := .int .i64 0) (a4 := .int .i64 0) hWd
          have hfb := Lib.hid (HBd.trans ((set_facts #[.int .i64 0, .int .i64 0, .int .i64 0, .int .i64 0, .int .i64 0] hWd).2.1))
          clear hfz
          clear hWd HBd
          go_wp2_with fail
          refine bodyPost_ret (v := .tuple #[.agg #[.int .i64 0, .int .i64 0, .int .i64 0, .int .i64 0, .int .i64 0], .int .i64 0, .int .i64 6]) (by simp [results, Tryd.results15, go_sem, *]) rfl ⟨by rw [hR.out (fun h => hne h.2)], hfb.out⟩
      · obtain rfl : k = 2 := by omega
        have heq : l = [W, V] := List.ext_getElem (by rw [hlw]; rfl) fun j h1 h2 => by
          have := hall j (by omega)
          simpa [List.getD, List.getElem?_eq_getElem h1, List.getElem?_eq_getElem h2] using this
        clear hb hall
        obtain ⟨hfz, g0, g1, g2, g3, g4⟩ := free5 hWr
        have z0 := hfz 0 (by decide)
        have z1 := hfz 1 (by decide)
        have z2 := hfz 2 (by decide)
        have z3 := hfz 3 (by decide)
        have z4 := hfz 4 (by decide)
        have hch := chain5 (a0 := .int .i64 op) (a1 := .int .i64 d) (a2 := .int .i64 a) (a3 := .int .i64 b) (a4 := .int .i64 m2) hWr
        obtain ⟨q0, q1, q2, q3, q4⟩ := after5 (a0 := .int .i64 op) (a1 := .int .i64 d) (a2 := .int .i64 a) (a3 := .int .i64 b) (a4 := .int .i64 m2) hWr
        have hfb := Lib.hid (HBr.out.trans ((set_facts #[.int .i64 op, .int .i64 d, .int .i64 a, .int .i64 b, .int .i64 m2] hWr).2.1))
        clear hfz
        clear hWr
        go_wp2_with fail
        refine bodyPost_ret (v := .tuple #[.agg #[.int .i64 op, .int .i64 d, .int .i64 a, .int .i64 b, .int .i64 m2], .int .i64 (at_ + 2), .int .i64 0]) (by simp [results, Tryd.results15, go_sem, *]) rfl ⟨by rw [hA.out ⟨hok, heq⟩], hfb.out⟩
  · refine (v10_f (HL.out.below hBX) hf hok).mono ?_
    rintro e w2 ⟨rfl, hb2⟩
    have hW2 := (hb2.block w.heap.size hsz).trans hW
    have hB2 := Lib.hid (hBX.trans (hb2.mono (by omega)))
    clear hb2 hBX hW
    obtain ⟨hfz, g0, g1, g2, g3, g4⟩ := free5 hW2
    have z0 := hfz 0 (by decide)
    have z1 := hfz 1 (by decide)
    have z2 := hfz 2 (by decide)
    have z3 := hfz 3 (by decide)
    have z4 := hfz 4 (by decide)
    have hch := chain5 (a0 := .int .i64 0) (a1 := .int .i64 0) (a2 := .int .i64 0) (a3 := .int .i64 0) (a4 := .int .i64 0) hW2
    obtain ⟨q0, q1, q2, q3, q4⟩ := after5 (a0 := .int .i64 0) (a1 := .int .i64 0) (a2 := .int .i64 0) (a3 := .int .i64 0) (a4 := .int .i64 0) hW2
    have hfb := Lib.hid (hB2.out.trans ((set_facts #[.int .i64 0, .int .i64 0, .int .i64 0, .int .i64 0, .int .i64 0] hW2).2.1))
    clear hfz
    clear hW2
    go_wp2_with fail
    refine bodyPost_ret (v := .tuple #[.agg #[.int .i64 0, .int .i64 0, .int .i64 0, .int .i64 0, .int .i64 0], .int .i64 0, .int .i64 6]) (by simp [results, Tryd.results15, go_sem, *]) rfl ⟨by rw [hR.out (fun h => hok h.1)], hfb.out⟩
end
end Go.Proofs.YtbkojaiecgdodaaDoor
end
section
set_option linter.unusedVariables false
set_option linter.unusedSimpArgs false
namespace Go.Proofs.YtbkojaiecgdodaaDoor
open Go Go.Ev Go.RowKit
section
variable {w : World} {B o n c at_ : Nat} {W op d a b m : Int} {V0 : Value}
set_option maxRecDepth 100000 in
set_option maxHeartbeats 4000000 in
theorem dec_ref_b (hlt : at_ < n) (hc : w.cell? ⟨B, o + at_, none⟩ = some (.int .u64 W)) (hn : n ≤ 400) (e0 : bits .and .u64 W 255 = op) (w0 : wrap64 op = op) (e1 : bits .and .u64 (W / 256) 15 = d) (w1 : wrap64 d = d) (e2 : bits .and .u64 (W / 4096) 15 = a) (w2 : wrap64 a = a) (e3 : bits .and .u64 (W / 65536) 15 = b) (w3 : wrap64 b = b) (e4 : wrap64 W / 4294967296 = m) (h3 : op = 3) (hm : ¬ ((at_ : Int) + 1 < n)) :
    Calls Tryd.prog 15 #[.slice (some ⟨B, o, none⟩) n c, .int .i64 at_] w fun e w' => e = .returned (.tuple #[.agg #[.int .i64 0, .int .i64 0, .int .i64 0, .int .i64 0, .int .i64 0], .int .i64 0, .int .i64 6]) ∧ Below w.heap.size w w' := by
  have hadd := add_none B o at_
  have hc1 := cell_a1 hc
  have h3' : (op == 3) = true := by simpa using h3
  clear h3
  go_enter Tryd.func15, Tryd.ntmps15
  go_wp2_with fail
  refine bodyPost_ret (v := .tuple #[.agg #[.int .i64 0, .int .i64 0, .int .i64 0, .int .i64 0, .int .i64 0], .int .i64 0, .int .i64 6]) (by simp [results, Tryd.results15, go_sem]) rfl ⟨rfl, (Below.refl _ _).alloc (Nat.le_refl _) _⟩
end
end Go.Proofs.YtbkojaiecgdodaaDoor
end
section
set_option linter.unusedVariables false
set_option linter.unusedSimpArgs false
namespace Go.Proofs.YtbkojaiecgdodaaDoor
open Go Go.Ev Go.RowKit
section
variable {w : World} {B o n c at_ : Nat} {W op d a b m : Int} {V0 : Value}
set_option maxRecDepth 100000 in
set_option maxHeartbeats 8000000 in
theorem dec_ref_c (hL : Laid w) (hB : B < w.heap.size) (hlt : at_ < n) (hc : ∀ k, k < 1 → w.cell? ⟨B, o + (at_ + k), none⟩ = some (.int .u64 ([W].getD k 0))) (hn : n ≤ 400) (hat : at_ + 1 ≤ n) (e0 : bits .and .u64 W 255 = op) (w0 : wrap64 op = op) (e1 : bits .and .u64 (W / 256) 15 = d) (w1 : wrap64 d = d) (e2 : bits .and .u64 (W / 4096) 15 = a) (w2 : wrap64 a = a) (e3 : bits .and .u64 (W / 65536) 15 = b) (w3 : wrap64 b = b) (e4 : wrap64 W / 4294967296 = m) (h3 : ¬ op = 3)
    (hf : (⟨op, d, a, b, m⟩ : MI).fits) (hA : (⟨op, d, a, b, m⟩ : MI).ok ∧ wds ⟨op, d, a, b, m⟩ = [W] → V0 = .tuple #[.agg #[.int .i64 op, .int .i64 d, .int .i64 a, .int .i64 b, .int .i64 m], .int .i64 (at_ + 1), .int .i64 0]) (hR : ¬ ((⟨op, d, a, b, m⟩ : MI).ok ∧ wds ⟨op, d, a, b, m⟩ = [W]) → V0 = .tuple #[.agg #[.int .i64 0, .int .i64 0, .int .i64 0, .int .i64 0, .int .i64 0], .int .i64 0, .int .i64 6]) :
    Calls Tryd.prog 15 #[.slice (some ⟨B, o, none⟩) n c, .int .i64 at_] w fun e w' => e = .returned V0 ∧ Below w.heap.size w w' := by
  have hadd := add_none B o at_
  have h3' : (op == 3) = false := by simpa using h3
  have H3 := Lib.hid h3
  clear h3
  have HC := Lib.hid hc
  have hA := Lib.hid hA
  have hR := Lib.hid hR
  have HL := Lib.hid hL
  have hcw := hc 0 (by decide)
  simp only [Nat.add_zero] at hcw
  have hc1 := cell_a1 hcw
  clear hc hL hcw
  go_enter Tryd.func15, Tryd.ntmps15
  go_wp2_with fail
  have hBX : Below w.heap.size w (w.alloc (.cells #[.int .i64 op, .int .i64 d, .int .i64 a, .int .i64 b, .int .i64 m] 26)) := (Below.refl _ _).alloc (Nat.le_refl _) _
  have hW := heap_alloc_new w (.cells #[.int .i64 op, .int .i64 d, .int .i64 a, .int .i64 b, .int .i64 m] 26)
  have hsz : w.heap.size < (w.alloc (.cells #[.int .i64 op, .int .i64 d, .int .i64 a, .int .i64 b, .int .i64 m] 26)).heap.size := by simp
  generalize w.alloc (.cells #[.int .i64 op, .int .i64 d, .int .i64 a, .int .i64 b, .int .i64 m] 26) = W1 at *
  by_cases hok : (⟨op, d, a, b, m⟩ : MI).ok
  · refine (v10_t (HL.out.below hBX) hf hok).mono ?_
    rintro e w2 ⟨rfl, hb2⟩
    have hW2 := (hb2.block w.heap.size hsz).trans hW
    obtain ⟨r0, r1, r2, r3, r4⟩ := row5 (x := ⟨op, d, a, b, m⟩) hW2
    have hB2 := Lib.hid (hBX.trans (hb2.mono (by omega)))
    have hsz2 : w.heap.size < w2.heap.size := Nat.lt_of_lt_of_le hsz hb2.size
    clear hb2 hBX hW
    go_wp2_with fail
    refine (words_ref ⟨op, d, a, b, m⟩ hok).mono ?_
    rintro e w3 ⟨v', rfl, hown, hb3⟩
    obtain ⟨o', cap', rfl, hcap, hcf⟩ := owns_form hown
    have hlw : (wds ⟨op, d, a, b, m⟩).length = 1 := by unfold wds; rw [if_neg (by exact H3.out)]; rfl
    rcases hcf with ⟨h0, _⟩ | ⟨g', rfl, hg1, hg2, hcells⟩
    · omega
    have hl : ∀ k, k < 1 → w3.cell? ⟨g', k, none⟩ = some (.int .u64 ((wds ⟨op, d, a, b, m⟩).getD k 0)) := fun k hk => hcells k _ (by simp [cellsU, List.getD, List.getElem?_eq_getElem (show k < (wds ⟨op, d, a, b, m⟩).length by omega)])
    have hW3 := Lib.hid ((hb3.block w.heap.size hsz2).trans hW2)
    have hB3 := Lib.hid (hB2.out.trans (hb3.mono (by omega)))
    have HW := Lib.hid hl
    have hsz3 : w.heap.size < w3.heap.size := Nat.lt_of_lt_of_le hsz2 hb3.size
    clear hown hb3 hcells hl r0 r1 r2 r3 r4 hW2 hB2
    generalize hwd : wds ⟨op, d, a, b, m⟩ = l at *
    rw [hlw]
    go_wp2_with fail
    go_loopw [5, 9] (fun v i wr => ∃ k : Nat, v = .int .i64 (at_ + 1) ∧ i = .int .i64 k ∧ k ≤ 1 ∧ Below w3.heap.size w3 wr ∧ ∀ j, j < k → l.getD j 0 = [W].getD j 0) (fun _ i _ => (1 - intOf i).toNat)
    case atStart => exact ⟨0, rfl, rfl, Nat.zero_le _, Below.refl _ _, fun j hj => absurd hj (Nat.not_lt_zero _)⟩
    case round =>
      obtain ⟨k, rfl, rfl, hk, hb, hall⟩ := hrel
      have hWr := (hb.block w.heap.size hsz3).trans hW3.out
      have HBr := Lib.hid (hB3.out.trans (hb.mono (by omega)))
      by_cases hlk : k < 1
      · have d1 := HW.out k hlk
        have d2 := HC.out k hlk
        have f1 := (hb.cell (World.block_lt_of_cell? _ _ d1)).trans d1
        have f2 := (HBr.out.cell (p := ⟨B, o + (at_ + k), none⟩) hB).trans d2
        have ha2 := add_none B o (at_ + k)
        have hb1 : (at_ : Int) + k < n := by omega
        have HB2 := Lib.hid hb
        have HA := Lib.hid hall
        clear d1 d2 hb hall
        by_cases hq : l.getD k 0 = [W].getD k 0
        · rw [← hq] at f2
          generalize hr : l.getD k 0 = r at *
          clear hWr
          go_wp2_with fail
          go_region
          go_wp2_with fail
          go_roundw
          case rel => exact ⟨k + 1, rfl, by go_num, by omega, HB2.out.drew, fun j hj => by
            rcases Nat.lt_or_ge j k with h | h
            · exact HA.out j h
            · obtain rfl : j = k := by omega
              rw [hr]; exact hq⟩
          case measure => simp [intOf]; omega
        · have hne : ¬ l = [W] := fun h => hq (by rw [h])
          have hq' : (l.getD k 0 == [W].getD k 0) = false := by simpa using hq
          generalize l.getD k 0 = r at *
          generalize [W].getD k 0 = s at *
          have hWd : wr.drew.heap[w.heap.size]? = _ := hWr
          have HBd := HBr.out.drew
          clear hWr
          go_wp2_with fail
          go_region
          generalize wr.drew = wd at *
          obtain ⟨hfz, g0, g1, g2, g3, g4⟩ := free5 hWd
          have z0 := hfz 0 (by decide)
          have z1 := hfz 1 (by decide)
          have z2 := hfz 2 (by decide)
          have z3 := hfz 3 (by decide)
          have z4 := hfz 4 (by decide)
          have hch := chain5 (a0 := .int .i64 0) (a1 := .int .i64 0) (a2 := .int .i64 0) (a3 := .int .i64 0) (a4 := .int .i64 0) hWd
          obtain ⟨q0, q1, q2, q3, q4⟩ := after5 (a0 := .int .i64 0) (a1 := .int .i64 0) (a2 := .int .i64 0) (a3 := .int .i64 0) (a4 := .int .i64 0) hWd
          have hfb := Lib.hid (HBd.trans ((set_facts #[.int .i64 0, .int .i64 0, .int .i64 0, .int .i64 0, .int .i64 0] hWd).2.1))
          clear hfz
          clear hWd HBd
          go_wp2_with fail
          refine bodyPost_ret (v := .tuple #[.agg #[.int .i64 0, .int .i64 0, .int .i64 0, .int .i64 0, .int .i64 0], .int .i64 0, .int .i64 6]) (by simp [results, Tryd.results15, go_sem, *]) rfl ⟨by rw [hR.out (fun h => hne h.2)], hfb.out⟩
      · obtain rfl : k = 1 := by omega
        have heq : l = [W] := List.ext_getElem (by rw [hlw]; rfl) fun j h1 h2 => by
          have := hall j (by omega)
          simpa [List.getD, List.getElem?_eq_getElem h1, List.getElem?_eq_getElem h2] using this
        clear hb hall
        obtain ⟨hfz, g0, g1, g2, g3, g4⟩ := free5 hWr
        have z0 := hfz 0 (by decide)
        have z1 := hfz 1 (by decide)
        have z2 := hfz 2 (by decide)
        have z3 := hfz 3 (by decide)
        have z4 := hfz 4 (by decide)
        have hch := chain5 (a0 := .int .i64 op) (a1 := .int .i64 d) (a2 := .int .i64 a) (a3 := .int .i64 b) (a4 := .int .i64 m) hWr
        obtain ⟨q0, q1, q2, q3, q4⟩ := after5 (a0 := .int .i64 op) (a1 := .int .i64 d) (a2 := .int .i64 a) (a3 := .int .i64 b) (a4 := .int .i64 m) hWr
        have hfb := Lib.hid (HBr.out.trans ((set_facts #[.int .i64 op, .int .i64 d, .int .i64 a, .int .i64 b, .int .i64 m] hWr).2.1))
        clear hfz
        clear hWr
        go_wp2_with fail
        refine bodyPost_ret (v := .tuple #[.agg #[.int .i64 op, .int .i64 d, .int .i64 a, .int .i64 b, .int .i64 m], .int .i64 (at_ + 1), .int .i64 0]) (by simp [results, Tryd.results15, go_sem, *]) rfl ⟨by rw [hA.out ⟨hok, heq⟩], hfb.out⟩
  · refine (v10_f (HL.out.below hBX) hf hok).mono ?_
    rintro e w2 ⟨rfl, hb2⟩
    have hW2 := (hb2.block w.heap.size hsz).trans hW
    have hB2 := Lib.hid (hBX.trans (hb2.mono (by omega)))
    clear hb2 hBX hW
    obtain ⟨hfz, g0, g1, g2, g3, g4⟩ := free5 hW2
    have z0 := hfz 0 (by decide)
    have z1 := hfz 1 (by decide)
    have z2 := hfz 2 (by decide)
    have z3 := hfz 3 (by decide)
    have z4 := hfz 4 (by decide)
    have hch := chain5 (a0 := .int .i64 0) (a1 := .int .i64 0) (a2 := .int .i64 0) (a3 := .int .i64 0) (a4 := .int .i64 0) hW2
    obtain ⟨q0, q1, q2, q3, q4⟩ := after5 (a0 := .int .i64 0) (a1 := .int .i64 0) (a2 := .int .i64 0) (a3 := .int .i64 0) (a4 := .int .i64 0) hW2
    have hfb := Lib.hid (hB2.out.trans ((set_facts #[.int .i64 0, .int .i64 0, .int .i64 0, .int .i64 0, .int .i64 0] hW2).2.1))
    clear hfz
    clear hW2
    go_wp2_with fail
    refine bodyPost_ret (v := .tuple #[.agg #[.int .i64 0, .int .i64 0, .int .i64 0, .int .i64 0, .int .i64 0], .int .i64 0, .int .i64 6]) (by simp [results, Tryd.results15, go_sem, *]) rfl ⟨by rw [hR.out (fun h => hok h.1)], hfb.out⟩
end
end Go.Proofs.YtbkojaiecgdodaaDoor
end
section
set_option linter.unusedVariables false
set_option linter.unusedSimpArgs false
namespace Go.Proofs.YtbkojaiecgdodaaDoor
open Go Go.Ev Go.RowKit
theorem drop_take1 {ws : List Int} {k : Nat} (h : k < ws.length) : (ws.drop k).take 1 = [ws.getD k 0] := by
  rw [List.drop_eq_getElem_cons h, List.take_succ_cons, List.take_zero]
  simp only [List.getD, List.getElem?_eq_getElem h, Option.getD_some]
theorem drop_take2 {ws : List Int} {k : Nat} (h : k + 1 < ws.length) : (ws.drop k).take 2 = [ws.getD k 0, ws.getD (k + 1) 0] := by
  rw [List.drop_eq_getElem_cons (show k < ws.length by omega), List.drop_eq_getElem_cons h, List.take_succ_cons, List.take_succ_cons, List.take_zero]
  simp only [List.getD, List.getElem?_eq_getElem h, List.getElem?_eq_getElem (show k < ws.length by omega), Option.getD_some]
theorem decV_t {ws : List Int} {k : Nat} (h : acc ws k) : decV ws k = .tuple #[vl (gnx ws k).1, .int .i64 (gnx ws k).2, .int .i64 0] := if_pos h
theorem decV_f {ws : List Int} {k : Nat} (h : ¬ acc ws k) : decV ws k = .tuple #[vl MI0, .int .i64 0, .int .i64 6] := if_neg h
theorem dec_ref {w : World} {A : Option Addr} {n c at_ : Nat} {ws : List Int} (hL : Laid w) (hO : Rows1 w A n c ws) (hn : n ≤ 400) (hlt : at_ < n) :
    Calls Tryd.prog 15 #[.slice A n c, .int .i64 at_] w fun e w' => e = .returned (decV ws at_) ∧ Below w.heap.size w w' := by
  obtain ⟨B, o, rfl, hB, hget⟩ := hO.at (by omega)
  obtain ⟨l0, u0⟩ := hO.fits at_ hlt
  have hc := hget at_ hlt
  have hlen := hO.len
  have hfit := gnx_fits hO hlt
  generalize hW : ws.getD at_ 0 = W at *
  have e0 := and255 l0 u0
  have e1 := and15 (W := W / 256) (by omega) (by omega)
  have e2 := and15 (W := W / 4096) (by omega) (by omega)
  have e3 := and15 (W := W / 65536) (by omega) (by omega)
  have e4 : wrap64 W / 4294967296 = s32 (W / 4294967296) := by unfold wrap64 s32; split <;> omega
  have w0 : wrap64 (W % 256) = W % 256 := by unfold wrap64; omega
  have w1 : wrap64 (W / 256 % 16) = W / 256 % 16 := by unfold wrap64; omega
  have w2 : wrap64 (W / 4096 % 16) = W / 4096 % 16 := by unfold wrap64; omega
  have w3 : wrap64 (W / 65536 % 16) = W / 65536 % 16 := by unfold wrap64; omega
  by_cases h3 : W % 256 = 3
  · by_cases hm : at_ + 1 < n
    · have hd := hget (at_ + 1) hm
      obtain ⟨l1, u1⟩ := hO.fits (at_ + 1) hm
      have e5 : wrap64 (ws.getD (at_ + 1) 0) = s64 (ws.getD (at_ + 1) 0) := by unfold wrap64 s64; split <;> omega
      have e : gnx ws at_ = (gxl W (s64 (ws.getD (at_ + 1) 0)), at_ + 2) := by unfold gnx; rw [hW, if_pos ⟨h3, by omega⟩]
      have hs : sl ws at_ = [W, ws.getD (at_ + 1) 0] := by
        unfold sl; rw [e, show (gxl W (s64 (ws.getD (at_ + 1) 0)), at_ + 2).2 - at_ = 2 by show at_ + 2 - at_ = 2; omega, drop_take2 (by omega), hW]
      have ha : acc ws at_ = ((gxl W (s64 (ws.getD (at_ + 1) 0))).ok ∧ wds (gxl W (s64 (ws.getD (at_ + 1) 0))) = [W, ws.getD (at_ + 1) 0]) := by unfold acc; rw [hs, e]
      rw [e] at hfit
      refine dec_ref_a (V := ws.getD (at_ + 1) 0) hL hB hlt (fun k hk => ?_) hn (by omega) e0 w0 e1 w1 e2 w2 e3 w3 e4 h3 (by omega) e5 hfit (fun h => ?_) (fun h => ?_)
      · have hk : k = 0 ∨ k = 1 := by omega
        rcases hk with rfl | rfl
        · exact hc
        · exact hd
      · rw [decV_t (by rw [ha]; exact h), e]; rfl
      · rw [decV_f (by rw [ha]; exact h)]; rfl
    · have e : gnx ws at_ = (gxl W (s32 (W / 4294967296)), at_ + 1) := by unfold gnx; rw [hW, if_neg (fun h => hm (by have := h.2; omega))]
      have hs : (sl ws at_).length = 1 := by
        unfold sl; rw [e, show (gxl W (s32 (W / 4294967296)), at_ + 1).2 - at_ = 1 by show at_ + 1 - at_ = 1; omega, drop_take1 (by omega)]; rfl
      have hno : ¬ acc ws at_ := fun h => by
        have h2 := congrArg List.length h.2
        rw [hs, e] at h2
        unfold wds at h2
        rw [if_pos (show (gxl W (s32 (W / 4294967296))).op = 3 from h3)] at h2
        simp at h2
      rw [decV_f hno]
      exact (dec_ref_b hlt hc hn e0 w0 e1 w1 e2 w2 e3 w3 e4 h3 (by omega)).mono fun _ _ h => ⟨h.1, h.2⟩
  · have e : gnx ws at_ = (gxl W (s32 (W / 4294967296)), at_ + 1) := by unfold gnx; rw [hW, if_neg (fun h => h3 h.1)]
    have hs : sl ws at_ = [W] := by
      unfold sl; rw [e, show (gxl W (s32 (W / 4294967296)), at_ + 1).2 - at_ = 1 by show at_ + 1 - at_ = 1; omega, drop_take1 (by omega), hW]
    have ha : acc ws at_ = ((gxl W (s32 (W / 4294967296))).ok ∧ wds (gxl W (s32 (W / 4294967296))) = [W]) := by unfold acc; rw [hs, e]
    rw [e] at hfit
    refine dec_ref_c hL hB hlt (fun k hk => ?_) hn (by omega) e0 w0 e1 w1 e2 w2 e3 w3 e4 h3 hfit (fun h => ?_) (fun h => ?_)
    · obtain rfl : k = 0 := by omega
      exact hc
    · rw [decV_t (by rw [ha]; exact h), e]; rfl
    · rw [decV_f (by rw [ha]; exact h)]; rfl
def far : Value := .tuple #[vl MI0, .int .i64 0, .int .i64 2]
section
variable {w : World} {A : Option Addr} {n c : Nat} {i : Int}
set_option maxRecDepth 100000 in
set_option maxHeartbeats 2000000 in
theorem far14 (h : i < 0 ∨ ¬ i < 0 ∧ (n : Int) ≤ i) : Calls Tryd.prog 14 #[.slice A n c, .int .i64 i] w fun e w' => e = .returned far ∧ Below w.heap.size w w' := by
  rcases h with h | ⟨h, h2⟩ <;>
  · go_enter Tryd.func14, Tryd.ntmps14
    go_wp2_with fail
    refine bodyPost_ret (v := .tuple #[.agg #[.int .i64 0, .int .i64 0, .int .i64 0, .int .i64 0, .int .i64 0], .int .i64 0, .int .i64 2]) (by simp [results, Tryd.results14, go_sem]) rfl ⟨rfl, (Below.refl _ _).alloc (Nat.le_refl _) _⟩
set_option maxRecDepth 100000 in
set_option maxHeartbeats 2000000 in
theorem far15 (h : i < 0 ∨ ¬ i < 0 ∧ (n : Int) ≤ i) : Calls Tryd.prog 15 #[.slice A n c, .int .i64 i] w fun e w' => e = .returned far ∧ Below w.heap.size w w' := by
  rcases h with h | ⟨h, h2⟩ <;>
  · go_enter Tryd.func15, Tryd.ntmps15
    go_wp2_with fail
    refine bodyPost_ret (v := .tuple #[.agg #[.int .i64 0, .int .i64 0, .int .i64 0, .int .i64 0, .int .i64 0], .int .i64 0, .int .i64 2]) (by simp [results, Tryd.results15, go_sem]) rfl ⟨rfl, (Below.refl _ _).alloc (Nat.le_refl _) _⟩
end
end Go.Proofs.YtbkojaiecgdodaaDoor
end
