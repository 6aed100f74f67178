/- A part of the proof of TabG. -/
import Derived.Test.YtbkojaiecgdodaaDoorDeJ
set_option linter.unusedVariables false
set_option linter.unusedSimpArgs false
namespace Go.Proofs.YtbkojaiecgdodaaDoor
open Go Go.Ev Go.RowKit
section
variable {A A2 : Option Addr} {n c n2 c2 : Nat} {en : Int} {ws : List Int} {w : World}
set_option maxRecDepth 100000 in
set_option maxHeartbeats 2000000 in
theorem chk_p3 (hn : n ≤ 400) (h1 : (20000 : Int) < n2) : Calls Tryd.prog 16 #[.agg #[.slice A n c, .slice A2 n2 c2, .int .i64 en]] w fun e w' => e = .returned (.int .i64 3) ∧ Below w.heap.size w w' := by
  have hh1 : ¬ (20000 : Int) < n := by omega
  go_enter Tryd.func16, Tryd.ntmps16
  go_wp2_with fail
  refine bodyPost_ret (v := .int .i64 3) (by simp [results, Tryd.results16, go_sem]) rfl ⟨rfl, ((Below.refl _ _).alloc (Nat.le_refl _) _).alloc (by simp) _⟩
set_option maxRecDepth 100000 in
set_option maxHeartbeats 2000000 in
theorem chk_p2a (hn : n ≤ 400) (h1 : ¬ (20000 : Int) < n2) (h2 : en < 0) : Calls Tryd.prog 16 #[.agg #[.slice A n c, .slice A2 n2 c2, .int .i64 en]] w fun e w' => e = .returned (.int .i64 2) ∧ Below w.heap.size w w' := by
  have hh1 : ¬ (20000 : Int) < n := by omega
  go_enter Tryd.func16, Tryd.ntmps16
  go_wp2_with fail
  refine bodyPost_ret (v := .int .i64 2) (by simp [results, Tryd.results16, go_sem]) rfl ⟨rfl, ((Below.refl _ _).alloc (Nat.le_refl _) _).alloc (by simp) _⟩
set_option maxRecDepth 100000 in
set_option maxHeartbeats 2000000 in
theorem chk_p2b (hn : n ≤ 400) (h1 : ¬ (20000 : Int) < n2) (h2 : ¬ en < 0) (h3 : (n : Int) < en) : Calls Tryd.prog 16 #[.agg #[.slice A n c, .slice A2 n2 c2, .int .i64 en]] w fun e w' => e = .returned (.int .i64 2) ∧ Below w.heap.size w w' := by
  have hh1 : ¬ (20000 : Int) < n := by omega
  go_enter Tryd.func16, Tryd.ntmps16
  go_wp2_with fail
  refine bodyPost_ret (v := .int .i64 2) (by simp [results, Tryd.results16, go_sem]) rfl ⟨rfl, ((Below.refl _ _).alloc (Nat.le_refl _) _).alloc (by simp) _⟩
theorem chk_prog (hL : Laid w) (hO : Rows1 w A n c ws) (hn : n ≤ 400) : Calls Tryd.prog 16 #[.agg #[.slice A n c, .slice A2 n2 c2, .int .i64 en]] w fun e w' => e = .returned (.int .i64 (chkV ws n2 en)) ∧ Below w.heap.size w w' := by
  unfold chkV
  rw [hO.len]
  by_cases h1 : 20000 < n2
  · rw [if_pos h1]; exact chk_p3 hn (by omega)
  · rw [if_neg h1]
    by_cases h2 : en < 0
    · rw [if_pos (Or.inl h2)]; exact chk_p2a hn (by omega) h2
    · by_cases h3 : (n : Int) < en
      · rw [if_pos (Or.inr h3)]; exact chk_p2b hn (by omega) h2 h3
      · rw [if_neg (fun h => h.elim h2 h3)]; exact chk_prog0 hL hO hn (by omega) h2 h3
/-- both answer the same -/
theorem dec_both (hL : Laid w) (hO : Rows1 w A n c ws) (hn : n ≤ 400) (i : Int) : ∃ (x : MI) (nx e : Int), ∀ W, Below w.heap.size w W →
    (Calls Tryd.prog 14 #[.slice A n c, .int .i64 i] W fun en w' => en = .returned (.tuple #[vl x, .int .i64 nx, .int .i64 e]) ∧ Below W.heap.size W w') ∧
    (Calls Tryd.prog 15 #[.slice A n c, .int .i64 i] W fun en w' => en = .returned (.tuple #[vl x, .int .i64 nx, .int .i64 e]) ∧ Below W.heap.size W w') := by
  by_cases h0 : i < 0
  · exact ⟨MI0, 0, 2, fun W hW => ⟨far14 (Or.inl h0), far15 (Or.inl h0)⟩⟩
  by_cases h1 : (n : Int) ≤ i
  · exact ⟨MI0, 0, 2, fun W hW => ⟨far14 (Or.inr ⟨h0, h1⟩), far15 (Or.inr ⟨h0, h1⟩)⟩⟩
  obtain ⟨k, rfl⟩ := Int.eq_ofNat_of_zero_le (show 0 ≤ i by omega)
  have hk : k < n := by omega
  by_cases ha : acc ws k
  · refine ⟨(gnx ws k).1, (gnx ws k).2, 0, fun W hW => ?_⟩
    have e := decV_t ha
    rw [← e]
    exact ⟨dec_prog (hL.below hW) (hO.later hW) hn hk, dec_ref (hL.below hW) (hO.later hW) hn hk⟩
  · refine ⟨MI0, 0, 6, fun W hW => ?_⟩
    have e := decV_f ha
    rw [← e]
    exact ⟨dec_prog (hL.below hW) (hO.later hW) hn hk, dec_ref (hL.below hW) (hO.later hW) hn hk⟩
set_option maxRecDepth 100000 in
set_option maxHeartbeats 8000000 in
theorem law_decodes (i : Int) (hL : Laid w) (hO : Rows1 w A n c ws) (hn : n ≤ 400) (hn2 : n2 ≤ 30000) : Calls Tryd.prog 4 #[.agg #[.slice A n c, .slice A2 n2 c2, .int .i64 en], .int .i64 i] w (Yes w) := by
  obtain ⟨x, nx, er, hb⟩ := dec_both hL hO hn i
  have c16 := fun W (h : Below w.heap.size w W) => chk_prog (A2 := A2) (n2 := n2) (c2 := c2) (en := en) (hL.below h) (hO.later h) hn
  have c17 := fun W (h : Below w.heap.size w W) => chk_ref (A2 := A2) (c2 := c2) (en := en) (hL.below h) (hO.later h) hn hn2
  have hh1 : ¬ (400 : Int) < n := by omega
  have hh2 : ¬ (30000 : Int) < n2 := by omega
  generalize chkV ws n2 en = cv at *
  have HB := Lib.hid hb
  have H16 := Lib.hid c16
  have H17 := Lib.hid c17
  have HL := Lib.hid hL
  clear hb c16 c17 hL hO
  go_enter Tryd.func4, Tryd.ntmps4
  go_wp2_with fail
  have hX := heap_alloc_new w (.cells #[.slice A n c, .slice A2 n2 c2, .int .i64 en] 35)
  have hb0 : Below w.heap.size w (w.alloc (.cells #[.slice A n c, .slice A2 n2 c2, .int .i64 en] 35)) := (Below.refl _ _).alloc (Nat.le_refl _) _
  have hs0 : w.heap.size < (w.alloc (.cells #[.slice A n c, .slice A2 n2 c2, .int .i64 en] 35)).heap.size := by simp
  generalize w.alloc (.cells #[.slice A n c, .slice A2 n2 c2, .int .i64 en] 35) = W0 at *
  refine (HB.out W0 hb0).1.mono ?_
  rintro e w1 ⟨rfl, hb1⟩
  have hX1 := (hb1.block w.heap.size hs0).trans hX
  have hB1 := hb0.trans (hb1.mono (by omega))
  have hs1 : w.heap.size < w1.heap.size := Nat.lt_of_lt_of_le hs0 hb1.size
  have i0 : w1.cell? ⟨w.heap.size, 0, none⟩ = some (.slice A n c) := by simp [World.cell?, hX1]
  have hi0 := cell_a1 i0
  have HX1 := Lib.hid hX1
  have HB1 := Lib.hid hB1
  clear hb1 hX hb0 hX1 hB1 i0
  simp only [vl]
  go_wp2_with fail
  have hX5 := heap_alloc_new w1 (.cells #[.int .i64 x.op, .int .i64 x.d, .int .i64 x.a, .int .i64 x.b, .int .i64 x.m] 26)
  have hB5 : Below w.heap.size w (w1.alloc (.cells #[.int .i64 x.op, .int .i64 x.d, .int .i64 x.a, .int .i64 x.b, .int .i64 x.m] 26)) := HB1.out.alloc (by omega) _
  have hX2 : (w1.alloc (.cells #[.int .i64 x.op, .int .i64 x.d, .int .i64 x.a, .int .i64 x.b, .int .i64 x.m] 26)).heap[w.heap.size]? = _ := (Below.heap_alloc w1 _ _ (by omega)).trans HX1.out
  have hs5 : w1.heap.size < (w1.alloc (.cells #[.int .i64 x.op, .int .i64 x.d, .int .i64 x.a, .int .i64 x.b, .int .i64 x.m] 26)).heap.size := by simp
  generalize w1.alloc (.cells #[.int .i64 x.op, .int .i64 x.d, .int .i64 x.a, .int .i64 x.b, .int .i64 x.m] 26) = W1 at *
  refine (HB.out W1 hB5).2.mono ?_
  rintro e w2 ⟨rfl, hb2⟩
  have hX52 := (hb2.block w1.heap.size hs5).trans hX5
  have hX22 := (hb2.block w.heap.size (by omega)).trans hX2
  have hB2 := hB5.trans (hb2.mono (by omega))
  have hs2 : w1.heap.size < w2.heap.size := Nat.lt_of_lt_of_le hs5 hb2.size
  clear hb2 hX5 hB5 hX2 hs5 hi0
  simp only [vl]
  go_wp2_with fail
  have hX8 := heap_alloc_new w2 (.cells #[.int .i64 x.op, .int .i64 x.d, .int .i64 x.a, .int .i64 x.b, .int .i64 x.m] 26)
  have hB3 : Below w.heap.size w (w2.alloc (.cells #[.int .i64 x.op, .int .i64 x.d, .int .i64 x.a, .int .i64 x.b, .int .i64 x.m] 26)) := hB2.alloc (by omega) _
  have hX53 : (w2.alloc (.cells #[.int .i64 x.op, .int .i64 x.d, .int .i64 x.a, .int .i64 x.b, .int .i64 x.m] 26)).heap[w1.heap.size]? = _ := (Below.heap_alloc w2 _ _ (by omega)).trans hX52
  have hX23 : (w2.alloc (.cells #[.int .i64 x.op, .int .i64 x.d, .int .i64 x.a, .int .i64 x.b, .int .i64 x.m] 26)).heap[w.heap.size]? = _ := (Below.heap_alloc w2 _ _ (by omega)).trans hX22
  have l8 : w2.heap.size < (w2.alloc (.cells #[.int .i64 x.op, .int .i64 x.d, .int .i64 x.a, .int .i64 x.b, .int .i64 x.m] 26)).heap.size := by simp
  generalize w2.alloc (.cells #[.int .i64 x.op, .int .i64 x.d, .int .i64 x.a, .int .i64 x.b, .int .i64 x.m] 26) = W3 at *
  have l5 : w1.heap.size < W3.heap.size := by omega
  have l2 : w.heap.size < W3.heap.size := by omega
  obtain ⟨r0, r1, r2, r3, r4⟩ := row5 hX53
  obtain ⟨q0, q1, q2, q3, q4⟩ := row5 hX8
  have j0 : W3.cell? ⟨w.heap.size, 0, none⟩ = some (.slice A n c) := by simp [World.cell?, hX23]
  have j1 : W3.cell? ⟨w.heap.size, 1, none⟩ = some (.slice A2 n2 c2) := by simp [World.cell?, hX23]
  have j2 : W3.cell? ⟨w.heap.size, 2, none⟩ = some (.int .i64 en) := by simp [World.cell?, hX23]
  have hB3w : ∀ W, Below W3.heap.size W3 W → Below w.heap.size w W := fun W h => hB3.trans (h.mono (by omega))
  have c16 : ∀ W, Below W3.heap.size W3 W → Calls Tryd.prog 16 #[.agg #[.slice A n c, .slice A2 n2 c2, .int .i64 en]] W fun e w' => e = .returned (.int .i64 cv) ∧ Below W3.heap.size W3 w' := fun W h => (H16.out W (hB3w W h)).mono fun e w' k => ⟨k.1, h.trans (k.2.mono h.size)⟩
  have c17 : ∀ W, Below W3.heap.size W3 W → Calls Tryd.prog 17 #[.agg #[.slice A n c, .slice A2 n2 c2, .int .i64 en]] W fun e w' => e = .returned (.int .i64 cv) ∧ Below W3.heap.size W3 w' := fun W h => (H17.out W (hB3w W h)).mono fun e w' k => ⟨k.1, h.trans (k.2.mono h.size)⟩
  have c8 : ∀ W, Below W3.heap.size W3 W → Calls Tryd.prog 8 #[] W fun e w' => e = .returned (.bool true) ∧ Below W3.heap.size W3 w' := fun W h => (awake_calls (HL.out.below (hB3w W h))).mono fun e w' k => ⟨k.1, h.trans (k.2.mono h.size)⟩
  generalize w1.heap.size = b5 at *
  generalize w2.heap.size = b8 at *
  have HF := Lib.hid hB3w
  generalize hb2 : w.heap.size = b2 at *
  have hS : ∀ w', Below W3.heap.size W3 w' → w'.cell? ⟨b5, 0, none⟩ = some (.int .i64 x.op) ∧ w'.cell? ⟨b5, 1, none⟩ = some (.int .i64 x.d) ∧ w'.cell? ⟨b5, 2, none⟩ = some (.int .i64 x.a) ∧ w'.cell? ⟨b5, 3, none⟩ = some (.int .i64 x.b) ∧ w'.cell? ⟨b5, 4, none⟩ = some (.int .i64 x.m) ∧ w'.cell? ⟨b8, 0, none⟩ = some (.int .i64 x.op) ∧ w'.cell? ⟨b8, 1, none⟩ = some (.int .i64 x.d) ∧ w'.cell? ⟨b8, 2, none⟩ = some (.int .i64 x.a) ∧ w'.cell? ⟨b8, 3, none⟩ = some (.int .i64 x.b) ∧ w'.cell? ⟨b8, 4, none⟩ = some (.int .i64 x.m) ∧ w'.cell? ⟨b2, 0, none⟩ = some (.slice A n c) ∧ w'.cell? ⟨b2, 1, none⟩ = some (.slice A2 n2 c2) ∧ w'.cell? ⟨b2, 2, none⟩ = some (.int .i64 en) ∧ Below W3.heap.size W3 w' := fun w' h => ⟨(h.cell (p := ⟨b5, 0, none⟩) l5).trans r0, (h.cell (p := ⟨b5, 1, none⟩) l5).trans r1, (h.cell (p := ⟨b5, 2, none⟩) l5).trans r2, (h.cell (p := ⟨b5, 3, none⟩) l5).trans r3, (h.cell (p := ⟨b5, 4, none⟩) l5).trans r4, (h.cell (p := ⟨b8, 0, none⟩) l8).trans q0, (h.cell (p := ⟨b8, 1, none⟩) l8).trans q1, (h.cell (p := ⟨b8, 2, none⟩) l8).trans q2, (h.cell (p := ⟨b8, 3, none⟩) l8).trans q3, (h.cell (p := ⟨b8, 4, none⟩) l8).trans q4, (h.cell (p := ⟨b2, 0, none⟩) l2).trans j0, (h.cell (p := ⟨b2, 1, none⟩) l2).trans j1, (h.cell (p := ⟨b2, 2, none⟩) l2).trans j2, h⟩
  have HS := Lib.hid hS
  have hd : Below W3.heap.size W3 W3.drew := (Below.refl _ _).drew
  clear hS r0 r1 r2 r3 r4 q0 q1 q2 q3 q4 j0 j1 j2 hX8 hX53 hX23 hB3 hX52 hX22 hB2 hB3w
  go_region_held3 (fun w' => w'.cell? ⟨b5, 0, none⟩ = some (.int .i64 x.op) ∧ w'.cell? ⟨b5, 1, none⟩ = some (.int .i64 x.d) ∧ w'.cell? ⟨b5, 2, none⟩ = some (.int .i64 x.a) ∧ w'.cell? ⟨b5, 3, none⟩ = some (.int .i64 x.b) ∧ w'.cell? ⟨b5, 4, none⟩ = some (.int .i64 x.m) ∧ w'.cell? ⟨b8, 0, none⟩ = some (.int .i64 x.op) ∧ w'.cell? ⟨b8, 1, none⟩ = some (.int .i64 x.d) ∧ w'.cell? ⟨b8, 2, none⟩ = some (.int .i64 x.a) ∧ w'.cell? ⟨b8, 3, none⟩ = some (.int .i64 x.b) ∧ w'.cell? ⟨b8, 4, none⟩ = some (.int .i64 x.m) ∧ w'.cell? ⟨b2, 0, none⟩ = some (.slice A n c) ∧ w'.cell? ⟨b2, 1, none⟩ = some (.slice A2 n2 c2) ∧ w'.cell? ⟨b2, 2, none⟩ = some (.int .i64 en) ∧ Below W3.heap.size W3 w')
    (exact HS.out _ (by assumption))
    (first
      | (go_at_call 16; refine (c16 _ (by assumption)).mono ?_; rintro e w' ⟨rfl, hk16⟩)
      | (go_at_call 17; refine (c17 _ (by assumption)).mono ?_; rintro e w' ⟨rfl, hk17⟩)
      | (go_at_call 8; refine (c8 _ (by assumption)).mono ?_; rintro e w' ⟨rfl, hk8⟩))
  all_goals
    have hfin := Lib.hid (HF.out _ (by assumption))
    go_wp2_with fail
    refine bodyPost_ret (v := .bool true) (by simp [results, Tryd.results4, go_sem]) rfl ⟨rfl, ?_⟩
    have h := hfin.out
    first | exact h | (rw [hb2]; exact h) | (rw [← hb2]; exact h) | (rw [hb2] at h; exact h)
set_option maxRecDepth 100000 in
set_option maxHeartbeats 2000000 in
theorem long_decodes (i : Int) (hL : Laid w) (h : 400 < n ∨ (¬ 400 < n ∧ 30000 < n2)) : Calls Tryd.prog 4 #[.agg #[.slice A n c, .slice A2 n2 c2, .int .i64 en], .int .i64 i] w (Yes w) := by
  have HL := Lib.hid hL
  clear hL
  rcases h with h | ⟨h, h2⟩
  · have h' : (400 : Int) < n := by omega
    go_enter Tryd.func4, Tryd.ntmps4
    go_wp2_with fail
    have hb : Below w.heap.size w (w.alloc (.cells #[.slice A n c, .slice A2 n2 c2, .int .i64 en] 35)) := (Below.refl _ _).alloc (Nat.le_refl _) _
    generalize w.alloc (.cells #[.slice A n c, .slice A2 n2 c2, .int .i64 en] 35) = W0 at *
    refine (awake_calls (HL.out.below hb)).mono ?_
    rintro e w4 ⟨rfl, hb4⟩
    have HB4 := Lib.hid (hb.trans (hb4.mono hb.size))
    clear hb4
    go_wp2_with fail
    refine bodyPost_ret (v := .bool true) (by simp [results, Tryd.results4, go_sem]) rfl ⟨rfl, HB4.out⟩
  · have h' : ¬ (400 : Int) < n := by omega
    have h2' : (30000 : Int) < n2 := by omega
    go_enter Tryd.func4, Tryd.ntmps4
    go_wp2_with fail
    have hb : Below w.heap.size w (w.alloc (.cells #[.slice A n c, .slice A2 n2 c2, .int .i64 en] 35)) := (Below.refl _ _).alloc (Nat.le_refl _) _
    generalize w.alloc (.cells #[.slice A n c, .slice A2 n2 c2, .int .i64 en] 35) = W0 at *
    refine (awake_calls (HL.out.below hb)).mono ?_
    rintro e w4 ⟨rfl, hb4⟩
    have HB4 := Lib.hid (hb.trans (hb4.mono hb.size))
    clear hb4
    go_wp2_with fail
    refine bodyPost_ret (v := .bool true) (by simp [results, Tryd.results4, go_sem]) rfl ⟨rfl, HB4.out⟩
theorem decodes_ok (i : Int) (hL : Laid w) (hO : Rows1 w A n c ws) : Calls Tryd.prog 4 #[.agg #[.slice A n c, .slice A2 n2 c2, .int .i64 en], .int .i64 i] w (Yes w) := by
  by_cases h1 : 400 < n
  · exact long_decodes i hL (Or.inl h1)
  by_cases h2 : 30000 < n2
  · exact long_decodes i hL (Or.inr ⟨h1, h2⟩)
  exact law_decodes i hL hO (by omega) (by omega)
end
end Go.Proofs.YtbkojaiecgdodaaDoor
