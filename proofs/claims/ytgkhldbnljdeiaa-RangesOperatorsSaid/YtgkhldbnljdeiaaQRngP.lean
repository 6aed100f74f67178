/- The contracts of the program's functions without, unequal, equal and of the closures of comparisons of layer 4. -/
import Derived.Test.YtgkhldbnljdeiaaQRngO
set_option maxRecDepth 100000
set_option maxHeartbeats 2000000
set_option linter.unusedSimpArgs false
set_option linter.unusedVariables false
namespace Go.Proofs.Ytgkhldbnljdeiaa
open Go.RowKit
attribute [local go_sem] World.setCell_self
/-- A range without the value of another one, if that has no other and it is an end of the first. -/
def woS (a b c d : Int) : Int × Int := if c = d then (if a = c then (a + 1, b) else if b = c then (a, b - 1) else (a, b)) else (a, b)
theorem pwithout_any (a b c d : Int) (w : World) (h : Ok64 a b) (hn : ¬ (a = b ∧ a = c ∧ c = d)) :
   Calls Try.prog 112 #[.agg #[.int .i64 a, .int .i64 b], .agg #[.int .i64 c, .int .i64 d]] w fun e w' => e = .returned (.agg #[.int .i64 (woS a b c d).1, .int .i64 (woS a b c d).2]) ∧ Below w.heap.size w w' := by
 have key : ∀ x y, x = (woS a b c d).1 → y = (woS a b c d).2 → Calls Try.prog 112 #[.agg #[.int .i64 a, .int .i64 b], .agg #[.int .i64 c, .int .i64 d]] w (fun e w' => e = .returned (.agg #[.int .i64 x, .int .i64 y]) ∧ Below w.heap.size w w') → Calls Try.prog 112 #[.agg #[.int .i64 a, .int .i64 b], .agg #[.int .i64 c, .int .i64 d]] w (fun e w' => e = .returned (.agg #[.int .i64 (woS a b c d).1, .int .i64 (woS a b c d).2]) ∧ Below w.heap.size w w') := by
   rintro x y rfl rfl h; exact h
 obtain ⟨h1, h2, h3⟩ := h
 have S := fun w => Lib.hid (psingle_any c d w)
 by_cases hs : c = d
 · have e0 : (c == d) = true := by simpa using hs
   rw [e0] at S
   by_cases e : a = c
   · refine key (a + 1) b (by simp [woS, hs, e]) (by simp [woS, hs, e]) ?_
     have e1 : (a == c) = true := by simpa using e
     have k : a + 1 ≤ 9223372036854775807 := by omega
     clear key hs e e0 hn
     go_enter Try.func112, Try.ntmps112
     go_wp2_with (go_at_call 83; refine (S _).out.mono ?_; rintro e w' ⟨rfl, hb⟩; obtain ⟨hc, hf⟩ := bcell hb; have hz : w.heap.size + 1 + 1 < w'.heap.size := (by have := hb.size; simp at this; omega); have hz0 : w.heap.size < w'.heap.size := (by omega); have hz1 : w.heap.size + 1 < w'.heap.size := (by omega); have a0 : w'.cell? ⟨w.heap.size, 0, none⟩ = some (.int .i64 a) := cell_later hb (by go_simp); have a1 : w'.cell? ⟨w.heap.size, 1, none⟩ = some (.int .i64 b) := cell_later hb (by go_simp))
     refine bodyPost_ret (v := .agg #[.int .i64 (a + 1), .int .i64 b]) (by simp [results, Try.results112, go_sem, hc, hz, hz0, hz1, a0, a1]) rfl ⟨rfl, ?_⟩
     exact ((((Below.refl _ _).alloc (Nat.le_refl _) _).alloc (by simp) _).alloc (by simp; omega) _).trans (hb.mono (by simp; omega)) |>.setCell (by simp) _ |>.setCell (by simp; omega) _ |>.setCell (by simp; omega) _
   · have e1 : (a == c) = false := by simpa using e
     by_cases f : b = c
     · refine key a (b - 1) (by simp [woS, ← hs, e, f]) (by simp [woS, ← hs, e, f]) ?_
       have f1 : (b == c) = true := by simpa using f
       have k : -9223372036854775808 ≤ b - 1 := by omega
       clear key hs e e0 hn f
       go_enter Try.func112, Try.ntmps112
       go_wp2_with (go_at_call 83; refine (S _).out.mono ?_; rintro e w' ⟨rfl, hb⟩; obtain ⟨hc, hf⟩ := bcell hb; have hz : w.heap.size + 1 + 1 < w'.heap.size := (by have := hb.size; simp at this; omega); have hz0 : w.heap.size < w'.heap.size := (by omega); have hz1 : w.heap.size + 1 < w'.heap.size := (by omega); have a0 : w'.cell? ⟨w.heap.size, 0, none⟩ = some (.int .i64 a) := cell_later hb (by go_simp); have a1 : w'.cell? ⟨w.heap.size, 1, none⟩ = some (.int .i64 b) := cell_later hb (by go_simp))
       refine bodyPost_ret (v := .agg #[.int .i64 a, .int .i64 (b - 1)]) (by simp [results, Try.results112, go_sem, hc, hz, hz0, hz1, a0, a1]) rfl ⟨rfl, ?_⟩
       exact ((((Below.refl _ _).alloc (Nat.le_refl _) _).alloc (by simp) _).alloc (by simp; omega) _).trans (hb.mono (by simp; omega)) |>.setCell (by simp) _ |>.setCell (by simp; omega) _ |>.setCell (by simp; omega) _
     · refine key a b (by simp [woS, hs]; split <;> first | omega | (split <;> simp_all)) (by simp [woS, hs]; split <;> first | omega | (split <;> simp_all)) ?_
       have f1 : (b == c) = false := by simpa using f
       clear key hs e e0 hn f
       go_enter Try.func112, Try.ntmps112
       go_wp2_with (go_at_call 83; refine (S _).out.mono ?_; rintro e w' ⟨rfl, hb⟩; obtain ⟨hc, hf⟩ := bcell hb; have hz : w.heap.size + 1 + 1 < w'.heap.size := (by have := hb.size; simp at this; omega); have hz0 : w.heap.size < w'.heap.size := (by omega); have hz1 : w.heap.size + 1 < w'.heap.size := (by omega); have a0 : w'.cell? ⟨w.heap.size, 0, none⟩ = some (.int .i64 a) := cell_later hb (by go_simp); have a1 : w'.cell? ⟨w.heap.size, 1, none⟩ = some (.int .i64 b) := cell_later hb (by go_simp))
       refine bodyPost_ret (v := .agg #[.int .i64 a, .int .i64 b]) (by simp [results, Try.results112, go_sem, hc, hz, hz0, hz1, a0, a1]) rfl ⟨rfl, ?_⟩
       exact ((((Below.refl _ _).alloc (Nat.le_refl _) _).alloc (by simp) _).alloc (by simp; omega) _).trans (hb.mono (by simp; omega)) |>.setCell (by simp; omega) _ |>.setCell (by simp; omega) _
 · refine key a b (by simp [woS, hs]) (by simp [woS, hs]) ?_
   have e0 : (c == d) = false := by simpa using hs
   rw [e0] at S
   clear key hs e0 hn
   go_enter Try.func112, Try.ntmps112
   go_wp2_with (go_at_call 83; refine (S _).out.mono ?_; rintro e w' ⟨rfl, hb⟩; obtain ⟨hc, hf⟩ := bcell hb; have hz : w.heap.size + 1 + 1 < w'.heap.size := (by have := hb.size; simp at this; omega); have hz0 : w.heap.size < w'.heap.size := (by omega); have hz1 : w.heap.size + 1 < w'.heap.size := (by omega); have a0 : w'.cell? ⟨w.heap.size, 0, none⟩ = some (.int .i64 a) := cell_later hb (by go_simp); have a1 : w'.cell? ⟨w.heap.size, 1, none⟩ = some (.int .i64 b) := cell_later hb (by go_simp))
   refine bodyPost_ret (v := .agg #[.int .i64 a, .int .i64 b]) (by simp [results, Try.results112, go_sem, hc, hz, hz0, hz1, a0, a1]) rfl ⟨rfl, ?_⟩
   exact ((((Below.refl _ _).alloc (Nat.le_refl _) _).alloc (by simp) _).alloc (by simp; omega) _).trans (hb.mono (by simp; omega)) |>.setCell (by simp; omega) _ |>.setCell (by simp; omega) _
theorem pequal_of (a b c d x y : Int) (s : Bool) (w : World) (C : ∀ w, Hid (Calls Try.prog 32 #[.agg #[.int .i64 a, .int .i64 b], .agg #[.int .i64 c, .int .i64 d]] w fun e w' => e = .returned (.tuple #[.agg #[.int .i64 x, .int .i64 y], .bool s]) ∧ Below w.heap.size w w')) :
   Calls Try.prog 71 #[.agg #[.int .i64 a, .int .i64 b], .agg #[.int .i64 c, .int .i64 d]] w fun e w' => e = .returned (TwoV ⟨x, y, x, y, s⟩) ∧ Below w.heap.size w w' := by
 go_enter Try.func71, Try.ntmps71
 go_wp2_with (go_at_call 32; refine (C _).out.mono ?_; rintro e w' ⟨rfl, hb⟩; obtain ⟨hc, hf⟩ := bcell hb; have hz : w.heap.size + 1 + 1 + 1 < w'.heap.size := (by have := hb.size; simp at this; omega); have hz0 : w.heap.size + 1 + 1 < w'.heap.size := (by omega))
 go_region
 go_wp2
 refine bodyPost_ret (v := TwoV ⟨x, y, x, y, s⟩) (by simp [results, Try.results71, go_sem, hc, hz, hz0, TwoV]) rfl ⟨rfl, ?_⟩
 repeat (first | exact (((((Below.refl _ _).alloc (Nat.le_refl _) _).alloc (by simp) _).alloc (by simp; omega) _).alloc (by simp; omega) _).trans (hb.mono (by simp; omega)) | refine Below.drew ?_ | refine Below.setCell ?_ (by simp; try omega) _ | refine Below.alloc ?_ (by simp; try omega) _)
end Go.Proofs.Ytgkhldbnljdeiaa
