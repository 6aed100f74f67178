/- The contracts of the program's functions opposite, without, ordered, equal, unequal and the closures of comparisons of layer 4. -/
import Derived.RegionTactic
import Derived.BigRegion
import Derived.Deep.RegionHeld3
import Derived.Test.YtgkhldbnljdeiaaQGlueAToRngN
import Derived.Test.YtgkhldbnljdeiaaQRefJToRefK
set_option maxRecDepth 100000
set_option maxHeartbeats 2000000
set_option linter.unusedSimpArgs false
set_option linter.unusedVariables false
namespace Go.Proofs.Ytgkhldbnljdeiaa
open Go.RowKit
attribute [local go_sem] World.setCell_self
theorem popposite_any (op : Int) (w : World) (h : 11 ≤ op) (h' : op ≤ 16) :
   Calls Try.prog 46 #[.int .i64 op] w fun e w' => e = .returned (.int .i64 (oppS op)) ∧ w = w' := by
 obtain rfl | rfl | rfl | rfl | rfl | rfl : op = 11 ∨ op = 12 ∨ op = 13 ∨ op = 14 ∨ op = 15 ∨ op = 16 := by omega
 all_goals
   clear h h'
   go_enter Try.func46, Try.ntmps46
   go_wp2
   go_ret
   exact ⟨rfl, rfl⟩
/-- A narrowing's answer: what is left, or nothing. -/
def narS (op a b c d : Int) : Two := if (leftS op a b c d).p then leftS op a b c d else ⟨0, 0, 0, 0, false⟩
theorem pord_yes (a b c d g X Y : Int) (w : World) (hg : g = 0 ∨ g = 1) (h : a + g ≤ d) (h1 : -9223372036854775808 ≤ a) (h2 : d ≤ 9223372036854775807) (hX : X = min b (d - g)) (hY : Y = max c (a + g)) :
   Calls Try.prog 74 #[.agg #[.int .i64 a, .int .i64 b], .agg #[.int .i64 c, .int .i64 d], .int .i64 g] w fun e w' => e = .returned (TwoV ⟨a, X, Y, d, true⟩) ∧ Below w.heap.size w w' := by
 have e1 : decide (d < a) = false := by simp; omega
 have key : ∀ X' Y', X' = X → Y' = Y → Calls Try.prog 74 #[.agg #[.int .i64 a, .int .i64 b], .agg #[.int .i64 c, .int .i64 d], .int .i64 g] w (fun e w' => e = .returned (TwoV ⟨a, X', Y', d, true⟩) ∧ Below w.heap.size w w') → Calls Try.prog 74 #[.agg #[.int .i64 a, .int .i64 b], .agg #[.int .i64 c, .int .i64 d], .int .i64 g] w (fun e w' => e = .returned (TwoV ⟨a, X, Y, d, true⟩) ∧ Below w.heap.size w w') := by
   rintro X' Y' rfl rfl h; exact h
 rcases hg with rfl | rfl
 · have k1 : a ≤ d := by omega
   by_cases hq : a = d
   · have e2 : (a == d) = true := by simpa using hq
     by_cases hx : b ≤ d <;> by_cases hy : a ≤ c
     · refine key b c (by omega) (by omega) ?_
       clear hX hY h hq key
       go_enter Try.func74, Try.ntmps74
       go_wp2_with fail
       go_region
       go_wp2
       refine bodyPost_ret (v := TwoV ⟨a, _, _, d, true⟩) (by simp [results, Try.results74, go_sem, TwoV]) rfl ⟨rfl, ?_⟩
       exact (((((((((Below.refl _ _).alloc (Nat.le_refl _) _).alloc (by simp) _).alloc (by simp; omega) _).alloc (by simp; omega) _))))).drew
     · refine key b a (by omega) (by omega) ?_
       clear hX hY h hq key
       have hy' : c ≤ a := by omega
       go_enter Try.func74, Try.ntmps74
       go_wp2_with fail
       go_region
       go_wp2
       refine bodyPost_ret (v := TwoV ⟨a, _, _, d, true⟩) (by simp [results, Try.results74, go_sem, TwoV]) rfl ⟨rfl, ?_⟩
       exact (((((((((Below.refl _ _).alloc (Nat.le_refl _) _).alloc (by simp) _).alloc (by simp; omega) _).alloc (by simp; omega) _))))).drew
     · refine key d c (by omega) (by omega) ?_
       clear hX hY h hq key
       have hx' : d ≤ b := by omega
       go_enter Try.func74, Try.ntmps74
       go_wp2_with fail
       go_region
       go_wp2
       refine bodyPost_ret (v := TwoV ⟨a, _, _, d, true⟩) (by simp [results, Try.results74, go_sem, TwoV]) rfl ⟨rfl, ?_⟩
       exact (((((((((Below.refl _ _).alloc (Nat.le_refl _) _).alloc (by simp) _).alloc (by simp; omega) _).alloc (by simp; omega) _))))).drew
     · refine key d a (by omega) (by omega) ?_
       clear hX hY h hq key
       have hx' : d ≤ b := by omega
       have hy' : c ≤ a := by omega
       go_enter Try.func74, Try.ntmps74
       go_wp2_with fail
       go_region
       go_wp2
       refine bodyPost_ret (v := TwoV ⟨a, _, _, d, true⟩) (by simp [results, Try.results74, go_sem, TwoV]) rfl ⟨rfl, ?_⟩
       exact (((((((((Below.refl _ _).alloc (Nat.le_refl _) _).alloc (by simp) _).alloc (by simp; omega) _).alloc (by simp; omega) _))))).drew
   · have e2 : (a == d) = false := by simpa using hq
     by_cases hx : b ≤ d <;> by_cases hy : a ≤ c
     · refine key b c (by omega) (by omega) ?_
       clear hX hY h hq key
       go_enter Try.func74, Try.ntmps74
       go_wp2_with fail
       go_region
       go_wp2
       refine bodyPost_ret (v := TwoV ⟨a, _, _, d, true⟩) (by simp [results, Try.results74, go_sem, TwoV]) rfl ⟨rfl, ?_⟩
       exact (((((((((Below.refl _ _).alloc (Nat.le_refl _) _).alloc (by simp) _).alloc (by simp; omega) _).alloc (by simp; omega) _))))).drew
     · refine key b a (by omega) (by omega) ?_
       clear hX hY h hq key
       have hy' : c ≤ a := by omega
       go_enter Try.func74, Try.ntmps74
       go_wp2_with fail
       go_region
       go_wp2
       refine bodyPost_ret (v := TwoV ⟨a, _, _, d, true⟩) (by simp [results, Try.results74, go_sem, TwoV]) rfl ⟨rfl, ?_⟩
       exact (((((((((Below.refl _ _).alloc (Nat.le_refl _) _).alloc (by simp) _).alloc (by simp; omega) _).alloc (by simp; omega) _))))).drew
     · refine key d c (by omega) (by omega) ?_
       clear hX hY h hq key
       have hx' : d ≤ b := by omega
       go_enter Try.func74, Try.ntmps74
       go_wp2_with fail
       go_region
       go_wp2
       refine bodyPost_ret (v := TwoV ⟨a, _, _, d, true⟩) (by simp [results, Try.results74, go_sem, TwoV]) rfl ⟨rfl, ?_⟩
       exact (((((((((Below.refl _ _).alloc (Nat.le_refl _) _).alloc (by simp) _).alloc (by simp; omega) _).alloc (by simp; omega) _))))).drew
     · refine key d a (by omega) (by omega) ?_
       clear hX hY h hq key
       have hx' : d ≤ b := by omega
       have hy' : c ≤ a := by omega
       go_enter Try.func74, Try.ntmps74
       go_wp2_with fail
       go_region
       go_wp2
       refine bodyPost_ret (v := TwoV ⟨a, _, _, d, true⟩) (by simp [results, Try.results74, go_sem, TwoV]) rfl ⟨rfl, ?_⟩
       exact (((((((((Below.refl _ _).alloc (Nat.le_refl _) _).alloc (by simp) _).alloc (by simp; omega) _).alloc (by simp; omega) _))))).drew
 · have e2 : (a == d) = false := by simp; omega
   have k1 : a < d := by omega
   have k2 : -9223372036854775808 ≤ d - 1 := by omega
   have k3 : a + 1 ≤ 9223372036854775807 := by omega
   by_cases hx : b ≤ d - 1 <;> by_cases hy : a + 1 ≤ c
   · refine key b c (by omega) (by omega) ?_
     clear hX hY h key
     go_enter Try.func74, Try.ntmps74
     go_wp2_with fail
     go_region
     go_wp2
     refine bodyPost_ret (v := TwoV ⟨a, _, _, d, true⟩) (by simp [results, Try.results74, go_sem, TwoV]) rfl ⟨rfl, ?_⟩
     exact (((((((((Below.refl _ _).alloc (Nat.le_refl _) _).alloc (by simp) _).alloc (by simp; omega) _).alloc (by simp; omega) _))))).drew
   · refine key b (a + 1) (by omega) (by omega) ?_
     clear hX hY h key
     have hy' : c ≤ a + 1 := by omega
     go_enter Try.func74, Try.ntmps74
     go_wp2_with fail
     go_region
     go_wp2
     refine bodyPost_ret (v := TwoV ⟨a, _, _, d, true⟩) (by simp [results, Try.results74, go_sem, TwoV]) rfl ⟨rfl, ?_⟩
     exact (((((((((Below.refl _ _).alloc (Nat.le_refl _) _).alloc (by simp) _).alloc (by simp; omega) _).alloc (by simp; omega) _))))).drew
   · refine key (d - 1) c (by omega) (by omega) ?_
     clear hX hY h key
     have hx' : d - 1 ≤ b := by omega
     go_enter Try.func74, Try.ntmps74
     go_wp2_with fail
     go_region
     go_wp2
     refine bodyPost_ret (v := TwoV ⟨a, _, _, d, true⟩) (by simp [results, Try.results74, go_sem, TwoV]) rfl ⟨rfl, ?_⟩
     exact (((((((((Below.refl _ _).alloc (Nat.le_refl _) _).alloc (by simp) _).alloc (by simp; omega) _).alloc (by simp; omega) _))))).drew
   · refine key (d - 1) (a + 1) (by omega) (by omega) ?_
     clear hX hY h key
     have hx' : d - 1 ≤ b := by omega
     have hy' : c ≤ a + 1 := by omega
     go_enter Try.func74, Try.ntmps74
     go_wp2_with fail
     go_region
     go_wp2
     refine bodyPost_ret (v := TwoV ⟨a, _, _, d, true⟩) (by simp [results, Try.results74, go_sem, TwoV]) rfl ⟨rfl, ?_⟩
     exact (((((((((Below.refl _ _).alloc (Nat.le_refl _) _).alloc (by simp) _).alloc (by simp; omega) _).alloc (by simp; omega) _))))).drew
theorem pord_no (a b c d g : Int) (w : World) (hg : g = 0 ∨ g = 1) (h : d < a + g) :
   Calls Try.prog 74 #[.agg #[.int .i64 a, .int .i64 b], .agg #[.int .i64 c, .int .i64 d], .int .i64 g] w fun e w' => e = .returned (TwoV ⟨0, 0, 0, 0, false⟩) ∧ Below w.heap.size w w' := by
 by_cases h0 : d < a
 · have e1 : decide (d < a) = true := by simpa using h0
   clear h h0
   go_enter Try.func74, Try.ntmps74
   go_wp2
   refine bodyPost_ret (v := TwoV ⟨0, 0, 0, 0, false⟩) (by simp [results, Try.results74, go_sem, TwoV]) rfl ⟨rfl, ?_⟩
   exact (((((((((Below.refl _ _).alloc (Nat.le_refl _) _).alloc (by simp) _).alloc (by simp; omega) _).alloc (by simp; omega) _)))))
 · have e1 : decide (d < a) = false := by simpa using h0
   have e2 : (a == d) = true := by simp; omega
   obtain rfl : g = 1 := by omega
   clear h h0 hg
   go_enter Try.func74, Try.ntmps74
   go_wp2
   refine bodyPost_ret (v := TwoV ⟨0, 0, 0, 0, false⟩) (by simp [results, Try.results74, go_sem, TwoV]) rfl ⟨rfl, ?_⟩
   exact (((((((((Below.refl _ _).alloc (Nat.le_refl _) _).alloc (by simp) _).alloc (by simp; omega) _).alloc (by simp; omega) _)))))
end Go.Proofs.Ytgkhldbnljdeiaa
