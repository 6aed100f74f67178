/- The contracts of the reference functions without and left of layer 4, for ranges that are not empty. -/
import Derived.Test.YtgkhldbnljdeiaaQRefC
set_option maxHeartbeats 1000000
set_option linter.unusedSimpArgs false
set_option linter.unusedVariables false
namespace Go.Proofs.Ytgkhldbnljdeiaa
open Go.RowKit
def woLow (a b n : Int) : Int := if a = b ∧ a = n then 1 else if a = n then n + 1 else a
def woHigh (a b n : Int) : Int := if a = b ∧ a = n then 0 else if a = n then b else if b = n then n - 1 else b
theorem without_any (a b n : Int) (w : World) (hab : a ≤ b) (ha : -9223372036854775808 ≤ a) (hb : b ≤ 9223372036854775807) :
   Calls Try.prog 78 #[.agg #[.int .i64 a, .int .i64 b], .int .i64 n] w fun e w' => e = .returned (.agg #[.int .i64 (woLow a b n), .int .i64 (woHigh a b n)]) ∧ Below w.heap.size w w' := by
 by_cases h1 : a = n
 · subst h1
   by_cases h2 : a = b
   · subst h2
     have hl : woLow a a a = 1 := by simp [woLow]
     have hh : woHigh a a a = 0 := by simp [woHigh]
     rw [hl, hh]
     clear hl hh
     go_enter Try.func78, Try.ntmps78
     go_wp2_with (go_at_call 65; refine (single_any _ _ _).mono ?_; rintro e w' ⟨rfl, hB⟩; obtain ⟨hc, hf⟩ := bcell hB; have hz : w.heap.size + 1 < w'.heap.size := by have := hB.size; simp at this; omega)
     refine bodyPost_ret (v := .agg #[.int .i64 1, .int .i64 0]) (by simp [results, Try.results78, go_sem, hc, hz]) rfl ⟨rfl, ?_⟩
     exact (((((Below.refl _ _).alloc (Nat.le_refl _) _).alloc (by simp) _).trans (hB.mono (by simp; omega))).setCell (by simp) _).setCell (by simp) _
   · have hl : woLow a b a = a + 1 := by simp [woLow, h2]
     have hh : woHigh a b a = b := by simp [woHigh, h2]
     rw [hl, hh]
     clear hl hh
     have e2 : (a == b) = false := by simpa using h2
     have hlt : a < b := by omega
     clear h2 hab
     go_enter Try.func78, Try.ntmps78
     go_wp2_with (go_at_call 65; refine (single_any _ _ _).mono ?_; rintro e w' ⟨rfl, hB⟩; obtain ⟨hc, hf⟩ := bcell hB; have hz : w.heap.size + 1 < w'.heap.size := by have := hB.size; simp at this; omega)
     refine bodyPost_ret (v := .agg #[.int .i64 (a + 1), .int .i64 (b)]) (by simp [results, Try.results78, go_sem, hc, hz]) rfl ⟨rfl, ?_⟩
     exact (((((Below.refl _ _).alloc (Nat.le_refl _) _).alloc (by simp) _).trans (hB.mono (by simp; omega))).setCell (by simp) _).setCell (by simp) _
 · by_cases h2 : b = n
   · subst h2
     have hl : woLow a b b = a := by simp [woLow, h1]
     have hh : woHigh a b b = b - 1 := by simp [woHigh, h1]
     rw [hl, hh]
     clear hl hh
     have e2 : (a == b) = false := by simpa using h1
     have hlt : a < b := by omega
     clear h1 hab
     go_enter Try.func78, Try.ntmps78
     go_wp2_with (go_at_call 65; refine (single_any _ _ _).mono ?_; rintro e w' ⟨rfl, hB⟩; obtain ⟨hc, hf⟩ := bcell hB; have hz : w.heap.size + 1 < w'.heap.size := by have := hB.size; simp at this; omega)
     refine bodyPost_ret (v := .agg #[.int .i64 (a), .int .i64 (b - 1)]) (by simp [results, Try.results78, go_sem, hc, hz]) rfl ⟨rfl, ?_⟩
     exact (((((Below.refl _ _).alloc (Nat.le_refl _) _).alloc (by simp) _).trans (hB.mono (by simp; omega))).setCell (by simp) _).setCell (by simp) _
   · have hl : woLow a b n = a := by simp [woLow, h1]
     have hh : woHigh a b n = b := by simp [woHigh, h1, h2]
     rw [hl, hh]
     clear hl hh
     have e1 : (a == n) = false := by simpa using h1
     have e2 : (b == n) = false := by simpa using h2
     by_cases h3 : a = b
     · subst h3
       clear h1 h2 hab
       go_enter Try.func78, Try.ntmps78
       go_wp2_with (go_at_call 65; refine (single_any _ _ _).mono ?_; rintro e w' ⟨rfl, hB⟩; obtain ⟨hc, hf⟩ := bcell hB; have hz : w.heap.size + 1 < w'.heap.size := by have := hB.size; simp at this; omega)
       refine bodyPost_ret (v := .agg #[.int .i64 (a), .int .i64 (a)]) (by simp [results, Try.results78, go_sem, hc, hz]) rfl ⟨rfl, ?_⟩
       exact (((((Below.refl _ _).alloc (Nat.le_refl _) _).alloc (by simp) _).trans (hB.mono (by simp; omega))).setCell (by simp) _).setCell (by simp) _
     · have e3 : (a == b) = false := by simpa using h3
       clear h1 h2 h3 hab
       go_enter Try.func78, Try.ntmps78
       go_wp2_with (go_at_call 65; refine (single_any _ _ _).mono ?_; rintro e w' ⟨rfl, hB⟩; obtain ⟨hc, hf⟩ := bcell hB; have hz : w.heap.size + 1 < w'.heap.size := by have := hB.size; simp at this; omega)
       refine bodyPost_ret (v := .agg #[.int .i64 (a), .int .i64 (b)]) (by simp [results, Try.results78, go_sem, hc, hz]) rfl ⟨rfl, ?_⟩
       exact (((((Below.refl _ _).alloc (Nat.le_refl _) _).alloc (by simp) _).trans (hB.mono (by simp; omega))).setCell (by simp) _).setCell (by simp) _
end Go.Proofs.Ytgkhldbnljdeiaa
