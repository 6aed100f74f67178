/- SetSelf, RefA, RefB. -/
import Derived.WalkKit
import Derived.Test.YtgkhldbnljdeiaaRows
import Derived.WalkSpells
import Derived.WalkLawsBesides
import Derived.Deep.QuietTactic
import Derived.BigQuiet
import Derived.Lib.Hide
set_option maxHeartbeats 400000
set_option linter.unusedSimpArgs false
set_option linter.unusedVariables false
namespace Go
theorem World.setCell_self {w : World} {a : Addr} {v : Value} (h : w.cell? a = some v) : w.setCell a v = w := by
 unfold World.cell? at h
 split at h
 · rename_i c e f hb
   cases hs : a.spot.isSome with
   | true => simp [hs] at h
   | false =>
     simp only [hs, Bool.false_eq_true, if_false] at h
     have hset : c.setIfInBounds a.off v = c := by
       apply Array.ext
       · simp
       · intro i h1 h2
         rw [Array.getElem_setIfInBounds (by simpa using h2)]
         split
         · rename_i e; subst e
           rw [Array.getElem?_eq_getElem h2] at h
           exact (Option.some.inj h).symm
         · rfl
     cases w with
     | mk heap tape drawn os output =>
       simp only [World.setCell, World.mk.injEq, and_true]
       apply Array.ext
       · simp
       · intro i h1 h2
         rw [Array.getElem_modify]
         split
         · rename_i e; subst e
           have : heap[a.block] = Obj.cells c e f := by
             simp only at hb
             rw [Array.getElem?_eq_getElem h2] at hb
             exact Option.some.inj hb
           rw [this]
           simp [hs, hset]
         · rfl
 · simp at h
end Go
namespace Go.Proofs.Ytgkhldbnljdeiaa
open Go.RowKit
def fullLow (k : Int) : Int := if k = 1 then -9223372036854775808 else 0
def fullHigh (k : Int) : Int := if k = 1 then 9223372036854775807 else if k = 2 then 255 else if k = 3 then 1 else 0
def fullErr (k : Int) : Int := if k = 1 ∨ k = 2 ∨ k = 3 then 0 else 2
theorem bcell {W w1 : World} (hb : Below W.heap.size W w1) : (∀ b o, b < W.heap.size → w1.cell? ⟨b, o, none⟩ = W.cell? ⟨b, o, none⟩) ∧ (∀ b o, b < W.heap.size → w1.frozen? ⟨b, o, none⟩ = W.frozen? ⟨b, o, none⟩) :=
 ⟨fun b o h => hb.cell (p := ⟨b, o, none⟩) h, fun b o h => hb.frozen (p := ⟨b, o, none⟩) h⟩
theorem full_any (k : Int) (w : World) :
   Calls Try.prog 12 #[.int .i64 k] w fun e w' => e = .returned (.tuple #[.agg #[.int .i64 (fullLow k), .int .i64 (fullHigh k)], .int .i64 (fullErr k)]) ∧ Below w.heap.size w w' := by
 have key : ∀ a b e, a = fullLow k → b = fullHigh k → e = fullErr k → Calls Try.prog 12 #[.int .i64 k] w (fun e' w' => e' = .returned (.tuple #[.agg #[.int .i64 a, .int .i64 b], .int .i64 e]) ∧ Below w.heap.size w w') → Calls Try.prog 12 #[.int .i64 k] w (fun e w' => e = .returned (.tuple #[.agg #[.int .i64 (fullLow k), .int .i64 (fullHigh k)], .int .i64 (fullErr k)]) ∧ Below w.heap.size w w') := by
   rintro a b e rfl rfl rfl h; exact h
 by_cases h1 : k = 1
 · subst h1
   refine key (-9223372036854775808) 9223372036854775807 0 rfl rfl rfl ?_
   go_enter Try.func12, Try.ntmps12
   go_wp2
   exact bodyPost_ret (v := .tuple #[.agg #[.int .i64 (-9223372036854775808), .int .i64 9223372036854775807], .int .i64 0]) (by simp [results, Try.results12, go_sem]) rfl ⟨rfl, (Below.refl _ _).alloc (Nat.le_refl _) _⟩
 · by_cases h2 : k = 2
   · subst h2
     refine key 0 255 0 rfl rfl rfl ?_
     go_enter Try.func12, Try.ntmps12
     go_wp2
     exact bodyPost_ret (v := .tuple #[.agg #[.int .i64 0, .int .i64 255], .int .i64 0]) (by simp [results, Try.results12, go_sem]) rfl ⟨rfl, (Below.refl _ _).alloc (Nat.le_refl _) _⟩
   · by_cases h3 : k = 3
     · subst h3
       refine key 0 1 0 rfl rfl rfl ?_
       go_enter Try.func12, Try.ntmps12
       go_wp2
       exact bodyPost_ret (v := .tuple #[.agg #[.int .i64 0, .int .i64 1], .int .i64 0]) (by simp [results, Try.results12, go_sem]) rfl ⟨rfl, (Below.refl _ _).alloc (Nat.le_refl _) _⟩
     · refine key 0 0 2 (by simp [fullLow, h1]) (by simp [fullHigh, h1, h2, h3]) (by simp [fullErr, h1, h2, h3]) ?_
       have e1 : (k == 1) = false := by simpa using h1
       have e2 : (k == 2) = false := by simpa using h2
       have e3 : (k == 3) = false := by simpa using h3
       clear h1 h2 h3 key
       go_enter Try.func12, Try.ntmps12
       go_wp2
       exact bodyPost_ret (v := .tuple #[.agg #[.int .i64 0, .int .i64 0], .int .i64 2]) (by simp [results, Try.results12, go_sem]) rfl ⟨rfl, (Below.refl _ _).alloc (Nat.le_refl _) _⟩
end Go.Proofs.Ytgkhldbnljdeiaa
namespace Go.Proofs.Ytgkhldbnljdeiaa
open Go.RowKit
def checkErr (k lo hi : Int) : Int := if fullErr k = 0 ∧ lo ≤ hi ∧ fullLow k ≤ lo ∧ hi ≤ fullHigh k then 0 else 2
theorem check_any (k lo hi : Int) (w : World) :
   Calls Try.prog 14 #[.int .i64 k, .agg #[.int .i64 lo, .int .i64 hi]] w fun e w' => e = .returned (.int .i64 (checkErr k lo hi)) ∧ Below w.heap.size w w' := by
 by_cases he : fullErr k = 0
 · have he' : (fullErr k != 0) = false := by simp [he]
   by_cases h1 : lo ≤ hi
   · have h1' : decide (hi < lo) = false := by simpa using h1
     by_cases h2 : fullLow k ≤ lo
     · have h2' : decide (lo < fullLow k) = false := by simpa using h2
       by_cases h3 : hi ≤ fullHigh k
       · have h3' : decide (fullHigh k < hi) = false := by simpa using h3
         have hr : checkErr k lo hi = 0 := by simp [checkErr, he, h1, h2, h3]
         rw [hr]
         clear hr he
         go_enter Try.func14, Try.ntmps14
         go_wp2_with (go_at_call 12; refine (full_any _ _).mono ?_; rintro e w' ⟨rfl, hb⟩; obtain ⟨hc, hf⟩ := bcell hb; have hz : w.heap.size < w'.heap.size := by have := hb.size; simp at this; omega)
         go_ret
         exact ⟨rfl, ((Below.refl _ _).alloc (Nat.le_refl _) _).trans (hb.mono (by simp)) |>.alloc (by omega) _⟩
       · have h3' : decide (fullHigh k < hi) = true := by simpa using h3
         have hr : checkErr k lo hi = 2 := by simp [checkErr, h3]
         rw [hr]
         clear hr he h3
         go_enter Try.func14, Try.ntmps14
         go_wp2_with (go_at_call 12; refine (full_any _ _).mono ?_; rintro e w' ⟨rfl, hb⟩; obtain ⟨hc, hf⟩ := bcell hb; have hz : w.heap.size < w'.heap.size := by have := hb.size; simp at this; omega)
         go_ret
         exact ⟨rfl, ((Below.refl _ _).alloc (Nat.le_refl _) _).trans (hb.mono (by simp)) |>.alloc (by omega) _⟩
     · have h2' : decide (lo < fullLow k) = true := by simpa using h2
       have hr : checkErr k lo hi = 2 := by simp [checkErr, h2]
       rw [hr]
       clear hr he h2
       go_enter Try.func14, Try.ntmps14
       go_wp2_with (go_at_call 12; refine (full_any _ _).mono ?_; rintro e w' ⟨rfl, hb⟩; obtain ⟨hc, hf⟩ := bcell hb; have hz : w.heap.size < w'.heap.size := by have := hb.size; simp at this; omega)
       go_ret
       exact ⟨rfl, ((Below.refl _ _).alloc (Nat.le_refl _) _).trans (hb.mono (by simp)) |>.alloc (by omega) _⟩
   · have h1' : decide (hi < lo) = true := by simpa using h1
     have hr : checkErr k lo hi = 2 := by simp [checkErr, h1]
     rw [hr]
     clear hr he h1
     go_enter Try.func14, Try.ntmps14
     go_wp2_with (go_at_call 12; refine (full_any _ _).mono ?_; rintro e w' ⟨rfl, hb⟩; obtain ⟨hc, hf⟩ := bcell hb; have hz : w.heap.size < w'.heap.size := by have := hb.size; simp at this; omega)
     go_ret
     exact ⟨rfl, ((Below.refl _ _).alloc (Nat.le_refl _) _).trans (hb.mono (by simp)) |>.alloc (by omega) _⟩
 · have he' : (fullErr k != 0) = true := by simp [he]
   have hr : checkErr k lo hi = 2 := by simp [checkErr, he]
   rw [hr]
   clear hr he
   go_enter Try.func14, Try.ntmps14
   go_wp2_with (go_at_call 12; refine (full_any _ _).mono ?_; rintro e w' ⟨rfl, hb⟩; obtain ⟨hc, hf⟩ := bcell hb; have hz : w.heap.size < w'.heap.size := by have := hb.size; simp at this; omega)
   go_ret
   exact ⟨rfl, ((Below.refl _ _).alloc (Nat.le_refl _) _).trans (hb.mono (by simp)) |>.alloc (by omega) _⟩
theorem join_no (a b c d : Int) (w : World) (h : b < a ∨ d < c) :
   Calls Try.prog 16 #[.agg #[.int .i64 a, .int .i64 b], .agg #[.int .i64 c, .int .i64 d]] w fun e w' => e = .returned (.tuple #[.agg #[.int .i64 0, .int .i64 0], .int .i64 2]) ∧ Below w.heap.size w w' := by
 by_cases h1 : b < a
 · have h1' : decide (b < a) = true := by simpa using h1
   clear h
   go_enter Try.func16, Try.ntmps16
   go_wp2
   refine bodyPost_ret (v := .tuple #[.agg #[.int .i64 0, .int .i64 0], .int .i64 2]) (by simp [results, Try.results16, go_sem]) rfl ⟨rfl, ?_⟩
   exact (((Below.refl _ _).alloc (Nat.le_refl _) _).alloc (by simp) _).alloc (by simp; omega) _
 · have h1' : decide (b < a) = false := by simpa using h1
   have h2' : decide (d < c) = true := by simp; omega
   clear h
   go_enter Try.func16, Try.ntmps16
   go_wp2
   refine bodyPost_ret (v := .tuple #[.agg #[.int .i64 0, .int .i64 0], .int .i64 2]) (by simp [results, Try.results16, go_sem]) rfl ⟨rfl, ?_⟩
   exact (((Below.refl _ _).alloc (Nat.le_refl _) _).alloc (by simp) _).alloc (by simp; omega) _
theorem join_yes (a b c d : Int) (w : World) (h : a ≤ b) (g : c ≤ d) :
   Calls Try.prog 16 #[.agg #[.int .i64 a, .int .i64 b], .agg #[.int .i64 c, .int .i64 d]] w fun e w' => e = .returned (.tuple #[.agg #[.int .i64 (min a c), .int .i64 (max b d)], .int .i64 0]) ∧ Below w.heap.size w w' := by
 have h1' : decide (b < a) = false := by simpa using h
 have h2' : decide (d < c) = false := by simpa using g
 go_enter Try.func16, Try.ntmps16
 go_wp2
 all_goals
   refine bodyPost_ret (v := .tuple #[.agg #[.int .i64 (min a c), .int .i64 (max b d)], .int .i64 0]) (by simp [results, Try.results16, go_sem]; omega) rfl ⟨rfl, ?_⟩
   exact (((Below.refl _ _).alloc (Nat.le_refl _) _).alloc (by simp) _).alloc (by simp; omega) _
theorem meet_bad (a b c d : Int) (w : World) (h : b < a ∨ d < c) :
   Calls Try.prog 18 #[.agg #[.int .i64 a, .int .i64 b], .agg #[.int .i64 c, .int .i64 d]] w fun e w' => e = .returned (.tuple #[.agg #[.int .i64 0, .int .i64 0], .bool false, .int .i64 2]) ∧ Below w.heap.size w w' := by
 by_cases h1 : b < a
 · have h1' : decide (b < a) = true := by simpa using h1
   clear h
   go_enter Try.func18, Try.ntmps18
   go_wp2
   refine bodyPost_ret (v := .tuple #[.agg #[.int .i64 0, .int .i64 0], .bool false, .int .i64 2]) (by simp [results, Try.results18, go_sem]) rfl ⟨rfl, ?_⟩
   exact (((Below.refl _ _).alloc (Nat.le_refl _) _).alloc (by simp) _).alloc (by simp; omega) _
 · have h1' : decide (b < a) = false := by simpa using h1
   have h2' : decide (d < c) = true := by simp; omega
   clear h
   go_enter Try.func18, Try.ntmps18
   go_wp2
   refine bodyPost_ret (v := .tuple #[.agg #[.int .i64 0, .int .i64 0], .bool false, .int .i64 2]) (by simp [results, Try.results18, go_sem]) rfl ⟨rfl, ?_⟩
   exact (((Below.refl _ _).alloc (Nat.le_refl _) _).alloc (by simp) _).alloc (by simp; omega) _
theorem meet_yes (a b c d : Int) (w : World) (h : a ≤ b) (g : c ≤ d) (hm : max a c ≤ min b d) :
   Calls Try.prog 18 #[.agg #[.int .i64 a, .int .i64 b], .agg #[.int .i64 c, .int .i64 d]] w fun e w' => e = .returned (.tuple #[.agg #[.int .i64 (max a c), .int .i64 (min b d)], .bool true, .int .i64 0]) ∧ Below w.heap.size w w' := by
 have h1' : decide (b < a) = false := by simpa using h
 have h2' : decide (d < c) = false := by simpa using g
 have m1 : a ≤ d := by omega
 have m2 : c ≤ b := by omega
 clear hm
 go_enter Try.func18, Try.ntmps18
 go_wp2
 all_goals
   refine bodyPost_ret (v := .tuple #[.agg #[.int .i64 (max a c), .int .i64 (min b d)], .bool true, .int .i64 0]) (by simp [results, Try.results18, go_sem]; omega) rfl ⟨rfl, ?_⟩
   exact ((((Below.refl _ _).alloc (Nat.le_refl _) _).alloc (by simp) _).alloc (by simp; omega) _).alloc (by simp; omega) _
theorem meet_no (a b c d : Int) (w : World) (h : a ≤ b) (g : c ≤ d) (hm : min b d < max a c) :
   Calls Try.prog 18 #[.agg #[.int .i64 a, .int .i64 b], .agg #[.int .i64 c, .int .i64 d]] w fun e w' => e = .returned (.tuple #[.agg #[.int .i64 0, .int .i64 0], .bool false, .int .i64 0]) ∧ Below w.heap.size w w' := by
 have h1' : decide (b < a) = false := by simpa using h
 have h2' : decide (d < c) = false := by simpa using g
 have m1 : d < a ∨ b < c := by omega
 clear hm
 go_enter Try.func18, Try.ntmps18
 go_wp2
 all_goals
   refine bodyPost_ret (v := .tuple #[.agg #[.int .i64 0, .int .i64 0], .bool false, .int .i64 0]) (by simp [results, Try.results18, go_sem]) rfl ⟨rfl, ?_⟩
   exact ((((Below.refl _ _).alloc (Nat.le_refl _) _).alloc (by simp) _).alloc (by simp; omega) _).alloc (by simp; omega) _
end Go.Proofs.Ytgkhldbnljdeiaa
