/- RngZ4, RngZ5, RngZ6. -/
import Derived.Test.YtgkhldbnljdeiaaPutRules
import Derived.Test.YtgkhldbnljdeiaaQRngZ3
set_option maxRecDepth 100000
set_option maxHeartbeats 4000000
set_option linter.unusedSimpArgs false
set_option linter.unusedVariables false
namespace Go.Proofs.Ytgkhldbnljdeiaa
open Go.RowKit RangesMath
attribute [local go_sem] World.setCell_self
theorem out64_no {n : Int} (h1 : -9223372036854775808 ≤ n) (h2 : n ≤ 9223372036854775807) : RangesMath.out64 n = false := by
 unfold RangesMath.out64; simp; omega
theorem pinto (k lo hi : Int) (hk : k = 1 ∨ (k = 2 ∧ -9223372036854775808 ≤ lo ∧ lo ≤ 9223372036854775807 ∧ -9223372036854775808 ≤ hi ∧ hi ≤ 9223372036854775807)) (w : World) :
   Calls Try.prog 44 #[.agg #[.int .i64 (lo / 18446744073709551616), .int .u64 (lo % 18446744073709551616), .int .i64 (hi / 18446744073709551616), .int .u64 (hi % 18446744073709551616)], .int .i64 k] w (IntoOut (fin lo hi k).1 (fin lo hi k).2 w) := by
 have wr : ∀ n : Int, -9223372036854775808 ≤ n → n ≤ 9223372036854775807 → wrap64 (n % 18446744073709551616) = n := by intro n h1 h2; unfold wrap64; omega
 rcases hk with rfl | ⟨rfl, h1, h2, h3, h4⟩
 · have V1 := fun w => Lib.hid (pvalue_any lo w)
   have V2 := fun w => Lib.hid (pvalue_any hi w)
   have F := fun w => Lib.hid (pfull_any 1 w)
   unfold fin
   cases e1 : RangesMath.out64 lo with
   | true =>
     rw [e1] at V1
     exact pinto_1b _ _ _ _ _ _ _ w F V1
   | false =>
     rw [e1] at V1
     cases e2 : RangesMath.out64 hi with
     | true =>
       rw [e2] at V2
       exact pinto_1c _ _ _ _ _ _ _ w F V1 V2
     | false =>
       rw [e2] at V2
       have R := pinto_1a (lo / 18446744073709551616) (lo % 18446744073709551616) (hi / 18446744073709551616) (hi % 18446744073709551616) w V1 V2
       simp only [RangesMath.out64, decide_eq_false_iff_not] at e1 e2
       rw [wr lo (by omega) (by omega), wr hi (by omega) (by omega)] at R
       exact R
 · have e1 := wr lo h1 h2
   have e2 := wr hi h3 h4
   unfold fin
   rw [out64_no h1 h2, out64_no h3 h4, if_neg (by simp), if_neg (by omega)]
   by_cases h : lo / 256 = hi / 256
   · rw [if_pos h]
     have R := pinto_2a (lo / 18446744073709551616) (lo % 18446744073709551616) (hi % 18446744073709551616) w (by rw [e1, e2]; simpa using h)
     rw [e1, e2, low8_eq, low8_eq] at R
     rw [show hi / 18446744073709551616 = lo / 18446744073709551616 by omega]
     exact R
   · rw [if_neg h]
     have F := fun w => Lib.hid (pfull_any 2 w)
     by_cases hp : lo / 18446744073709551616 = hi / 18446744073709551616
     · rw [← hp]
       exact pinto_2b _ _ 0 _ _ _ _ w (by rw [e1, e2]; simpa using h) F
     · exact pinto_2c _ _ _ _ _ _ _ w (by simpa using hp) F
/-- What calculated makes of pairs of ranges, wherever they lie. -/
def CalcOK (k : Int) (f : Nat) (ps : List Pr) (x y : Int) : Prop := ∀ (g cap : Nat) (w : World), g < w.heap.size → ps.length ≤ cap → (∀ i v, (flat4 ps)[i]? = some v → w.cell? ⟨g, i, none⟩ = some v) →
 Calls Try.prog 90 #[.int .i64 k, .func (.func f) #[] #[], .slice (some ⟨g, 0, none⟩) ps.length cap] w fun e w' => e = .returned (.agg #[.int .i64 x, .int .i64 y, .bool true, .bool false, .bool false]) ∧ Below w.heap.size w w'
/-- A function of two values that returns a number. -/
def NumFn (f : Nat) (F : Int → Int → Int) (ps : List Pr) : Prop := ∀ p ∈ ps, ∀ u, (u = p.a ∨ u = p.b) → ∀ z, (z = p.c ∨ z = p.d) → ∀ w, Calls Try.prog f #[.int .i64 u, .int .i64 z] w fun e w' => e = .returned (numV (F u z)) ∧ Below w.heap.size w w'
theorem calc_ok (k : Int) (f : Nat) (F : Int → Int → Int) (ps : List Pr) (lo hi : Int) (hps : ps.length ≤ 3) (h1 : 0 < ps.length) (eg : ∀ args w, (callFunc f args).run Try.prog w = .ok (.enter f args) w) (hF : NumFn f F ps)
   (hlo : minTo (endsTo F ps ps.length) (4 * ps.length - 1) = lo) (hhi : maxTo (endsTo F ps ps.length) (4 * ps.length - 1) = hi)
   (hk : k = 1 ∨ (k = 2 ∧ -9223372036854775808 ≤ lo ∧ lo ≤ 9223372036854775807 ∧ -9223372036854775808 ≤ hi ∧ hi ≤ 9223372036854775807)) : CalcOK k f ps (fin lo hi k).1 (fin lo hi k).2 := by
 intro g cap w hg hcap hrow
 have hlen := endsTo_len F ps ps.length (Nat.le_refl _)
 refine pcalc_walk k f F ps g cap w (lo / 18446744073709551616) (lo % 18446744073709551616) (hi / 18446744073709551616) (hi % 18446744073709551616) _ _ hg hcap hps h1 (Lib.hid hrow) eg (Lib.hid hF) (Lib.hid ⟨?_, fun w => pinto k lo hi hk w⟩)
 intro g cap w hg hcap H
 have R := paround_any (endsTo F ps ps.length) g cap w hg (by omega) (by omega) hcap H
 rw [hlen, hlo, hhi] at R
 rw [hlen]
 exact R
theorem pcalc_nil (k : Int) (f : Nat) (o : Option Addr) (cap : Nat) (w : World) :
   Calls Try.prog 90 #[.int .i64 k, .func (.func f) #[] #[], .slice o 0 cap] w fun e w' => e = .returned (.agg #[.int .i64 0, .int .i64 0, .bool false, .bool false, .bool false]) ∧ Below w.heap.size w w' := by
 go_enter Try.func90, Try.ntmps90
 go_wp2_with fail
 go_loopw [7, 14] (fun v i wr => v = .slice none 0 0 ∧ i = .int .i64 0 ∧ wr = w.alloc (.cells #[.int .i64 0, .int .i64 0, .bool false, .bool false, .bool false] 37)) (fun _ _ _ => 0)
 case atStart => exact ⟨rfl, rfl, rfl⟩
 case round =>
   obtain ⟨rfl, rfl, rfl⟩ := hrel
   go_wp2
   refine bodyPost_ret (v := .agg #[.int .i64 0, .int .i64 0, .bool false, .bool false, .bool false]) (by simp [results, Try.results90, go_sem]) rfl ⟨rfl, ?_⟩
   exact (Below.refl _ _).alloc (Nat.le_refl _) _
end Go.Proofs.Ytgkhldbnljdeiaa
namespace Go.Proofs.Ytgkhldbnljdeiaa
open Go.RowKit RangesMath
attribute [local go_sem] World.setCell_self
theorem row4 {w : World} {g : Nat} {a b c d : Int} (h0 : w.cell? ⟨g, 0, none⟩ = some (.int .i64 a)) (h1 : w.cell? ⟨g, 1, none⟩ = some (.int .i64 b)) (h2 : w.cell? ⟨g, 2, none⟩ = some (.int .i64 c)) (h3 : w.cell? ⟨g, 3, none⟩ = some (.int .i64 d)) :
   ∀ i v, (flat4 [⟨a, b, c, d⟩])[i]? = some v → w.cell? ⟨g, i, none⟩ = some v := by
 intro i v h
 match i, h with
 | 0, h => simp [flat4] at h; rw [h0, h]
 | 1, h => simp [flat4] at h; rw [h1, h]
 | 2, h => simp [flat4] at h; rw [h2, h]
 | 3, h => simp [flat4] at h; rw [h3, h]
 | i + 4, h => simp [flat4] at h
/-- calculated over one pair. -/
def Calc1 (k : Int) (f : Nat) (a b c d x y : Int) : Prop := ∀ (g cap : Nat) (w : World), g < w.heap.size → 1 ≤ cap → w.cell? ⟨g, 0, none⟩ = some (.int .i64 a) → w.cell? ⟨g, 1, none⟩ = some (.int .i64 b) → w.cell? ⟨g, 2, none⟩ = some (.int .i64 c) → w.cell? ⟨g, 3, none⟩ = some (.int .i64 d) →
 Calls Try.prog 90 #[.int .i64 k, .func (.func f) #[] #[], .slice (some ⟨g, 0, none⟩) 1 cap] w fun e w' => e = .returned (.agg #[.int .i64 x, .int .i64 y, .bool true, .bool false, .bool false]) ∧ Below w.heap.size w w'
theorem calc1_of {k : Int} {f : Nat} {a b c d x y : Int} (h : CalcOK k f [⟨a, b, c, d⟩] x y) : Calc1 k f a b c d x y := fun g cap w hg hc h0 h1 h2 h3 => h g cap w hg hc (row4 h0 h1 h2 h3)
/-- A closure that makes an effect of two ranges: the results, and what else there is; the last argument is what it has captured. -/
def EffV (x y : Int) (s t u : Bool) : Value := .agg #[.int .i64 x, .int .i64 y, .bool s, .bool t, .bool u]
theorem parith_1 (k a b c d x y : Int) (kb : Nat) (w : World) (hkb : kb < w.heap.size) (hk : w.cell? ⟨kb, 0, none⟩ = some (.int .i64 k)) (C : Hid (Calc1 k 91 a b c d x y)) :
   Calls Try.prog 89 #[.agg #[.int .i64 a, .int .i64 b], .agg #[.int .i64 c, .int .i64 d], .pointer (some ⟨kb, 0, none⟩)] w fun e w' => e = .returned (EffV x y true false false) ∧ Below w.heap.size w w' := by
 have hk3 : ∀ o1 o2 o3, (((w.alloc o1).alloc o2).alloc o3).cell? ⟨kb, 0, none⟩ = some (.int .i64 k) := by
   intro o1 o2 o3
   rw [((((Below.refl w.heap.size w).alloc (Nat.le_refl _) o1).alloc (by simp) o2).alloc (by simp; omega) o3).cell (p := ⟨kb, 0, none⟩) hkb]
   exact hk
 clear hk
 go_enter Try.func89, Try.ntmps89
 go_wp2_with fail
 refine (C.out _ _ _ (by simp) (by omega) (by go_simp) (by go_simp) (by go_simp) (by go_simp)).mono ?_
 rintro e w1 ⟨rfl, hB⟩
 have z : w.heap.size + 1 + 1 < w1.heap.size := by have := hB.size; simp at this; omega
 have r0 : w1.cell? ⟨w.heap.size + 1 + 1, 0, none⟩ = some (.int .i64 0) := cell_later hB (by go_simp)
 have r1 : w1.cell? ⟨w.heap.size + 1 + 1, 1, none⟩ = some (.int .i64 0) := cell_later hB (by go_simp)
 have r2 : w1.cell? ⟨w.heap.size + 1 + 1, 2, none⟩ = some (.bool false) := cell_later hB (by go_simp)
 have r3 : w1.cell? ⟨w.heap.size + 1 + 1, 3, none⟩ = some (.bool false) := cell_later hB (by go_simp)
 have r4 : w1.cell? ⟨w.heap.size + 1 + 1, 4, none⟩ = some (.bool false) := cell_later hB (by go_simp)
 have f0 : w1.frozen? ⟨w.heap.size + 1 + 1, 0, none⟩ = false := keepFr hB (by simp; try omega) (by go_simp)
 have f1 : w1.frozen? ⟨w.heap.size + 1 + 1, 1, none⟩ = false := keepFr hB (by simp; try omega) (by go_simp)
 have f2 : w1.frozen? ⟨w.heap.size + 1 + 1, 2, none⟩ = false := keepFr hB (by simp; try omega) (by go_simp)
 have f3 : w1.frozen? ⟨w.heap.size + 1 + 1, 3, none⟩ = false := keepFr hB (by simp; try omega) (by go_simp)
 have f4 : w1.frozen? ⟨w.heap.size + 1 + 1, 4, none⟩ = false := keepFr hB (by simp; try omega) (by go_simp)
 have bl : Below w.heap.size w w1 := ((((Below.refl _ _).alloc (Nat.le_refl _) _).alloc (by simp) _).alloc (by simp; omega) _).alloc (by simp; omega) _ |>.trans (hB.mono (by simp; omega))
 clear hB
 go_wp2
 refine bodyPost_ret (v := EffV x y true false false) (by simp [results, Try.results89, go_sem, r0, r1, r2, r3, r4, EffV]) rfl ⟨rfl, ?_⟩
 repeat (first | exact bl | refine Below.setCell ?_ (by simp; try omega) _)
theorem parith_4 (k a b c d x y : Int) (kb : Nat) (w : World) (hkb : kb < w.heap.size) (hk : w.cell? ⟨kb, 0, none⟩ = some (.int .i64 k)) (C : Hid (Calc1 k 99 a b c d x y)) :
   Calls Try.prog 98 #[.agg #[.int .i64 a, .int .i64 b], .agg #[.int .i64 c, .int .i64 d], .pointer (some ⟨kb, 0, none⟩)] w fun e w' => e = .returned (EffV x y true false false) ∧ Below w.heap.size w w' := by
 have hk3 : ∀ o1 o2 o3, (((w.alloc o1).alloc o2).alloc o3).cell? ⟨kb, 0, none⟩ = some (.int .i64 k) := by
   intro o1 o2 o3
   rw [((((Below.refl w.heap.size w).alloc (Nat.le_refl _) o1).alloc (by simp) o2).alloc (by simp; omega) o3).cell (p := ⟨kb, 0, none⟩) hkb]
   exact hk
 clear hk
 go_enter Try.func98, Try.ntmps98
 go_wp2_with fail
 refine (C.out _ _ _ (by simp) (by omega) (by go_simp) (by go_simp) (by go_simp) (by go_simp)).mono ?_
 rintro e w1 ⟨rfl, hB⟩
 have z : w.heap.size + 1 + 1 < w1.heap.size := by have := hB.size; simp at this; omega
 have r0 : w1.cell? ⟨w.heap.size + 1 + 1, 0, none⟩ = some (.int .i64 0) := cell_later hB (by go_simp)
 have r1 : w1.cell? ⟨w.heap.size + 1 + 1, 1, none⟩ = some (.int .i64 0) := cell_later hB (by go_simp)
 have r2 : w1.cell? ⟨w.heap.size + 1 + 1, 2, none⟩ = some (.bool false) := cell_later hB (by go_simp)
 have r3 : w1.cell? ⟨w.heap.size + 1 + 1, 3, none⟩ = some (.bool false) := cell_later hB (by go_simp)
 have r4 : w1.cell? ⟨w.heap.size + 1 + 1, 4, none⟩ = some (.bool false) := cell_later hB (by go_simp)
 have f0 : w1.frozen? ⟨w.heap.size + 1 + 1, 0, none⟩ = false := keepFr hB (by simp; try omega) (by go_simp)
 have f1 : w1.frozen? ⟨w.heap.size + 1 + 1, 1, none⟩ = false := keepFr hB (by simp; try omega) (by go_simp)
 have f2 : w1.frozen? ⟨w.heap.size + 1 + 1, 2, none⟩ = false := keepFr hB (by simp; try omega) (by go_simp)
 have f3 : w1.frozen? ⟨w.heap.size + 1 + 1, 3, none⟩ = false := keepFr hB (by simp; try omega) (by go_simp)
 have f4 : w1.frozen? ⟨w.heap.size + 1 + 1, 4, none⟩ = false := keepFr hB (by simp; try omega) (by go_simp)
 have bl : Below w.heap.size w w1 := ((((Below.refl _ _).alloc (Nat.le_refl _) _).alloc (by simp) _).alloc (by simp; omega) _).alloc (by simp; omega) _ |>.trans (hB.mono (by simp; omega))
 clear hB
 go_wp2
 refine bodyPost_ret (v := EffV x y true false false) (by simp [results, Try.results98, go_sem, r0, r1, r2, r3, r4, EffV]) rfl ⟨rfl, ?_⟩
 repeat (first | exact bl | refine Below.setCell ?_ (by simp; try omega) _)
theorem parith_5 (k a b c d x y : Int) (kb : Nat) (w : World) (hkb : kb < w.heap.size) (hk : w.cell? ⟨kb, 0, none⟩ = some (.int .i64 k)) (C : Hid (Calc1 k 52 a b c d x y)) :
   Calls Try.prog 100 #[.agg #[.int .i64 a, .int .i64 b], .agg #[.int .i64 c, .int .i64 d], .pointer (some ⟨kb, 0, none⟩)] w fun e w' => e = .returned (EffV x y true false false) ∧ Below w.heap.size w w' := by
 have hk3 : ∀ o1 o2 o3, (((w.alloc o1).alloc o2).alloc o3).cell? ⟨kb, 0, none⟩ = some (.int .i64 k) := by
   intro o1 o2 o3
   rw [((((Below.refl w.heap.size w).alloc (Nat.le_refl _) o1).alloc (by simp) o2).alloc (by simp; omega) o3).cell (p := ⟨kb, 0, none⟩) hkb]
   exact hk
 clear hk
 go_enter Try.func100, Try.ntmps100
 go_wp2_with fail
 refine (C.out _ _ _ (by simp) (by omega) (by go_simp) (by go_simp) (by go_simp) (by go_simp)).mono ?_
 rintro e w1 ⟨rfl, hB⟩
 have z : w.heap.size + 1 + 1 < w1.heap.size := by have := hB.size; simp at this; omega
 have r0 : w1.cell? ⟨w.heap.size + 1 + 1, 0, none⟩ = some (.int .i64 0) := cell_later hB (by go_simp)
 have r1 : w1.cell? ⟨w.heap.size + 1 + 1, 1, none⟩ = some (.int .i64 0) := cell_later hB (by go_simp)
 have r2 : w1.cell? ⟨w.heap.size + 1 + 1, 2, none⟩ = some (.bool false) := cell_later hB (by go_simp)
 have r3 : w1.cell? ⟨w.heap.size + 1 + 1, 3, none⟩ = some (.bool false) := cell_later hB (by go_simp)
 have r4 : w1.cell? ⟨w.heap.size + 1 + 1, 4, none⟩ = some (.bool false) := cell_later hB (by go_simp)
 have f0 : w1.frozen? ⟨w.heap.size + 1 + 1, 0, none⟩ = false := keepFr hB (by simp; try omega) (by go_simp)
 have f1 : w1.frozen? ⟨w.heap.size + 1 + 1, 1, none⟩ = false := keepFr hB (by simp; try omega) (by go_simp)
 have f2 : w1.frozen? ⟨w.heap.size + 1 + 1, 2, none⟩ = false := keepFr hB (by simp; try omega) (by go_simp)
 have f3 : w1.frozen? ⟨w.heap.size + 1 + 1, 3, none⟩ = false := keepFr hB (by simp; try omega) (by go_simp)
 have f4 : w1.frozen? ⟨w.heap.size + 1 + 1, 4, none⟩ = false := keepFr hB (by simp; try omega) (by go_simp)
 have bl : Below w.heap.size w w1 := ((((Below.refl _ _).alloc (Nat.le_refl _) _).alloc (by simp) _).alloc (by simp; omega) _).alloc (by simp; omega) _ |>.trans (hB.mono (by simp; omega))
 clear hB
 go_wp2
 refine bodyPost_ret (v := EffV x y true false false) (by simp [results, Try.results100, go_sem, r0, r1, r2, r3, r4, EffV]) rfl ⟨rfl, ?_⟩
 repeat (first | exact bl | refine Below.setCell ?_ (by simp; try omega) _)
end Go.Proofs.Ytgkhldbnljdeiaa
namespace Go.Proofs.Ytgkhldbnljdeiaa
open Go.RowKit RangesMath
attribute [local go_sem] World.setCell_self
theorem pcontains (a b v : Int) (w : World) :
   Calls Try.prog 115 #[.agg #[.int .i64 a, .int .i64 b], .int .i64 v] w fun e w' => e = .returned (.bool (decide (a ≤ v) && decide (v ≤ b))) ∧ Below w.heap.size w w' := by
 by_cases h1 : a ≤ v
 · by_cases h2 : v ≤ b
   · have e : (decide (a ≤ v) && decide (v ≤ b)) = true := by simp [h1, h2]
     rw [e]
     clear e
     go_enter Try.func115, Try.ntmps115
     go_wp2
     go_ret
     exact ⟨rfl, (Below.refl _ _).alloc (Nat.le_refl _) _⟩
   · have e : (decide (a ≤ v) && decide (v ≤ b)) = false := by simp [h2]
     have h2' : decide (v ≤ b) = false := by simpa using h2
     rw [e]
     clear e h2
     go_enter Try.func115, Try.ntmps115
     go_wp2
     go_ret
     exact ⟨rfl, (Below.refl _ _).alloc (Nat.le_refl _) _⟩
 · have e : (decide (a ≤ v) && decide (v ≤ b)) = false := by simp [h1]
   have h1' : decide (a ≤ v) = false := by simpa using h1
   rw [e]
   clear e h1
   go_enter Try.func115, Try.ntmps115
   go_wp2
   go_ret
   exact ⟨rfl, (Below.refl _ _).alloc (Nat.le_refl _) _⟩
/-- A cell that may be written is written, and known from there on. -/
theorem Keeps.put {B : Nat} {fix : List (Nat × Nat × Value)} {var : List (Nat × Nat)} {w0 w : World} (h : Keeps B fix var w0 w) (g i : Nat) (v : Value) (hm : (g, i) ∈ var) (hB : B ≤ g) (hf : ∀ p ∈ fix, ¬ (p.1 = g ∧ p.2.1 = i)) : Keeps B ((g, i, v) :: fix) var w0 (w.setCell ⟨g, i, none⟩ v) := by
 obtain ⟨h1, h2, h3, h4, h5, h6⟩ := h
 have hg := h2 _ hm
 generalize valAt w ⟨g, i, none⟩ = z at hg
 refine ⟨fun p hp => ?_, fun a ha => ?_, fun a ha => ?_, fun a ha => by simpa [World.setCell] using h4 a ha, by simpa [World.setCell] using h5, h6.setCell hB _⟩
 · rcases List.mem_cons.1 hp with rfl | hp
   · have := World.cell?_setCell_same (w := w) (a := ⟨g, i, none⟩) (v := v) hg
     exact this
   · have := hf p hp
     have e := World.cell?_setCell_other (w := w) (a := ⟨g, i, none⟩) (b := ⟨p.1, p.2.1, none⟩) (v := v) (by intro e; injection e with e1 e2; exact this ⟨e1.symm, e2.symm⟩)
     exact e.trans (h1 p hp)
 · apply valAt_some
   obtain ⟨v', hv'⟩ := cell?_setCell_some (w := w) (p := ⟨g, i, none⟩) (x := v) (q := ⟨a.1, a.2, none⟩) (h2 a ha)
   rw [hv']; rfl
 · have := h3 a ha
   go_simp
theorem pdivided_f (a b c d x y : Int) (s t u : Bool) (w : World) (C1 : ∀ w, Hid (Calls Try.prog 115 #[.agg #[.int .i64 c, .int .i64 d], .int .i64 0] w fun e w' => e = .returned (.bool t) ∧ Below w.heap.size w w')) (C2 : ∀ w, Hid (Calls Try.prog 115 #[.agg #[.int .i64 a, .int .i64 b], .int .i64 (-9223372036854775808)] w fun e w' => e = .returned (.bool false) ∧ Below w.heap.size w w'))  :
   Calls Try.prog 93 #[.agg #[.int .i64 a, .int .i64 b], .agg #[.int .i64 c, .int .i64 d], EffV x y s false false] w fun e w' => e = .returned (EffV x y s t false) ∧ Below w.heap.size w w' := by
 unfold EffV
 go_enter Try.func93, Try.ntmps93
 go_wp2_with fail
 have KI : Keeps (w.heap.size) [(w.heap.size, 0, .int .i64 a), (w.heap.size, 1, .int .i64 b), (w.heap.size + 1, 0, .int .i64 c), (w.heap.size + 1, 1, .int .i64 d), (w.heap.size + 1 + 1, 0, .int .i64 x), (w.heap.size + 1 + 1, 1, .int .i64 y), (w.heap.size + 1 + 1, 2, .bool s)] [(w.heap.size + 1 + 1, 3), (w.heap.size + 1 + 1, 4), (w.heap.size + 1 + 1 + 1, 0), (w.heap.size + 1 + 1 + 1, 1), (w.heap.size + 1 + 1 + 1, 2), (w.heap.size + 1 + 1 + 1, 3), (w.heap.size + 1 + 1 + 1, 4)] w ((((w.alloc (.cells #[.int .i64 a, .int .i64 b] 23)).alloc (.cells #[.int .i64 c, .int .i64 d] 23)).alloc (.cells #[.int .i64 x, .int .i64 y, .bool s, .bool false, .bool false] 37)).alloc (.cells #[.int .i64 0, .int .i64 0, .bool false, .bool false, .bool false] 37)) := by
   refine ⟨?_, ?_, ?_, ?_, by simp; try omega, (((Below.refl _ _).alloc (Nat.le_refl _) _).alloc (by simp) _).alloc (by simp; omega) _ |>.alloc (by simp; omega) _⟩
   · simp only [fm, nm, false_imp_iff, implies_true, and_true]
     exact ⟨by go_simp, by go_simp, by go_simp, by go_simp, by go_simp, by go_simp, by go_simp⟩
   · simp only [fm, nm, false_imp_iff, implies_true, and_true]
     exact ⟨valAt_some (by go_simp), valAt_some (by go_simp), valAt_some (by go_simp), valAt_some (by go_simp), valAt_some (by go_simp), valAt_some (by go_simp), valAt_some (by go_simp)⟩
   · simp only [fm, nm, false_imp_iff, implies_true, and_true]
     exact ⟨by go_simp, by go_simp, by go_simp, by go_simp, by go_simp, by go_simp, by go_simp⟩
   · simp only [fm, nm, false_imp_iff, implies_true, and_true]
     exact ⟨by simp; try omega, by simp; try omega, by simp; try omega, by simp; try omega, by simp; try omega, by simp; try omega, by simp; try omega⟩
 have KI := Lib.hid KI
 generalize (((w.alloc (.cells #[.int .i64 a, .int .i64 b] 23)).alloc (.cells #[.int .i64 c, .int .i64 d] 23)).alloc (.cells #[.int .i64 x, .int .i64 y, .bool s, .bool false, .bool false] 37)).alloc (.cells #[.int .i64 0, .int .i64 0, .bool false, .bool false, .bool false] 37) = W at *
 refine (C1 _).out.mono ?_
 rintro e1 w1 ⟨rfl, hB⟩
 have K1 := Lib.hid ((KI.out).later hB)
 clear hB
 have k0 : w1.cell? ⟨w.heap.size, 0, none⟩ = some (.int .i64 a) := (K1.out).fixed (w.heap.size, 0, .int .i64 a) (by simp)
 have k1 : w1.cell? ⟨w.heap.size, 1, none⟩ = some (.int .i64 b) := (K1.out).fixed (w.heap.size, 1, .int .i64 b) (by simp)
 have k2 : w1.cell? ⟨w.heap.size + 1, 0, none⟩ = some (.int .i64 c) := (K1.out).fixed (w.heap.size + 1, 0, .int .i64 c) (by simp)
 have k3 : w1.cell? ⟨w.heap.size + 1, 1, none⟩ = some (.int .i64 d) := (K1.out).fixed (w.heap.size + 1, 1, .int .i64 d) (by simp)
 have k4 : w1.cell? ⟨w.heap.size + 1 + 1, 0, none⟩ = some (.int .i64 x) := (K1.out).fixed (w.heap.size + 1 + 1, 0, .int .i64 x) (by simp)
 have k5 : w1.cell? ⟨w.heap.size + 1 + 1, 1, none⟩ = some (.int .i64 y) := (K1.out).fixed (w.heap.size + 1 + 1, 1, .int .i64 y) (by simp)
 have k6 : w1.cell? ⟨w.heap.size + 1 + 1, 2, none⟩ = some (.bool s) := (K1.out).fixed (w.heap.size + 1 + 1, 2, .bool s) (by simp)
 have v0 : w1.cell? ⟨w.heap.size + 1 + 1, 3, none⟩ = some (valAt w1 ⟨w.heap.size + 1 + 1, 3, none⟩) := (K1.out).there (w.heap.size + 1 + 1, 3) (by simp)
 have f0 : w1.frozen? ⟨w.heap.size + 1 + 1, 3, none⟩ = false := (K1.out).froz (w.heap.size + 1 + 1, 3) (by simp)
 have v1 : w1.cell? ⟨w.heap.size + 1 + 1, 4, none⟩ = some (valAt w1 ⟨w.heap.size + 1 + 1, 4, none⟩) := (K1.out).there (w.heap.size + 1 + 1, 4) (by simp)
 have f1 : w1.frozen? ⟨w.heap.size + 1 + 1, 4, none⟩ = false := (K1.out).froz (w.heap.size + 1 + 1, 4) (by simp)
 have v2 : w1.cell? ⟨w.heap.size + 1 + 1 + 1, 0, none⟩ = some (valAt w1 ⟨w.heap.size + 1 + 1 + 1, 0, none⟩) := (K1.out).there (w.heap.size + 1 + 1 + 1, 0) (by simp)
 have f2 : w1.frozen? ⟨w.heap.size + 1 + 1 + 1, 0, none⟩ = false := (K1.out).froz (w.heap.size + 1 + 1 + 1, 0) (by simp)
 have v3 : w1.cell? ⟨w.heap.size + 1 + 1 + 1, 1, none⟩ = some (valAt w1 ⟨w.heap.size + 1 + 1 + 1, 1, none⟩) := (K1.out).there (w.heap.size + 1 + 1 + 1, 1) (by simp)
 have f3 : w1.frozen? ⟨w.heap.size + 1 + 1 + 1, 1, none⟩ = false := (K1.out).froz (w.heap.size + 1 + 1 + 1, 1) (by simp)
 have v4 : w1.cell? ⟨w.heap.size + 1 + 1 + 1, 2, none⟩ = some (valAt w1 ⟨w.heap.size + 1 + 1 + 1, 2, none⟩) := (K1.out).there (w.heap.size + 1 + 1 + 1, 2) (by simp)
 have f4 : w1.frozen? ⟨w.heap.size + 1 + 1 + 1, 2, none⟩ = false := (K1.out).froz (w.heap.size + 1 + 1 + 1, 2) (by simp)
 have v5 : w1.cell? ⟨w.heap.size + 1 + 1 + 1, 3, none⟩ = some (valAt w1 ⟨w.heap.size + 1 + 1 + 1, 3, none⟩) := (K1.out).there (w.heap.size + 1 + 1 + 1, 3) (by simp)
 have f5 : w1.frozen? ⟨w.heap.size + 1 + 1 + 1, 3, none⟩ = false := (K1.out).froz (w.heap.size + 1 + 1 + 1, 3) (by simp)
 have v6 : w1.cell? ⟨w.heap.size + 1 + 1 + 1, 4, none⟩ = some (valAt w1 ⟨w.heap.size + 1 + 1 + 1, 4, none⟩) := (K1.out).there (w.heap.size + 1 + 1 + 1, 4) (by simp)
 have f6 : w1.frozen? ⟨w.heap.size + 1 + 1 + 1, 4, none⟩ = false := (K1.out).froz (w.heap.size + 1 + 1 + 1, 4) (by simp)
 have z0 : w.heap.size + 1 + 1 < w1.heap.size := (K1.out).lt (w.heap.size + 1 + 1, 3) (by simp)
 have z1 : w.heap.size + 1 + 1 + 1 < w1.heap.size := (K1.out).lt (w.heap.size + 1 + 1 + 1, 0) (by simp)
 go_wp2_with fail
 have Q := Lib.hid (K1.out.put (w.heap.size + 1 + 1) 3 (.bool t) (by simp) (by omega) (by simp; try omega))
 refine (C2 _).out.mono ?_
 clear k0 k1 k2 k3 k4 k5 k6 v0 f0 v1 f1 v2 f2 v3 f3 v4 f4 v5 f5 v6 f6 z0 z1 K1
 rintro e2 w2 ⟨rfl, hB⟩
 have K2 := Lib.hid ((Q.out).later hB)
 clear hB
 have k0 : w2.cell? ⟨w.heap.size + 1 + 1, 3, none⟩ = some (.bool t) := (K2.out).fixed (w.heap.size + 1 + 1, 3, .bool t) (by simp)
 have k1 : w2.cell? ⟨w.heap.size, 0, none⟩ = some (.int .i64 a) := (K2.out).fixed (w.heap.size, 0, .int .i64 a) (by simp)
 have k2 : w2.cell? ⟨w.heap.size, 1, none⟩ = some (.int .i64 b) := (K2.out).fixed (w.heap.size, 1, .int .i64 b) (by simp)
 have k3 : w2.cell? ⟨w.heap.size + 1, 0, none⟩ = some (.int .i64 c) := (K2.out).fixed (w.heap.size + 1, 0, .int .i64 c) (by simp)
 have k4 : w2.cell? ⟨w.heap.size + 1, 1, none⟩ = some (.int .i64 d) := (K2.out).fixed (w.heap.size + 1, 1, .int .i64 d) (by simp)
 have k5 : w2.cell? ⟨w.heap.size + 1 + 1, 0, none⟩ = some (.int .i64 x) := (K2.out).fixed (w.heap.size + 1 + 1, 0, .int .i64 x) (by simp)
 have k6 : w2.cell? ⟨w.heap.size + 1 + 1, 1, none⟩ = some (.int .i64 y) := (K2.out).fixed (w.heap.size + 1 + 1, 1, .int .i64 y) (by simp)
 have k7 : w2.cell? ⟨w.heap.size + 1 + 1, 2, none⟩ = some (.bool s) := (K2.out).fixed (w.heap.size + 1 + 1, 2, .bool s) (by simp)
 have v0 : w2.cell? ⟨w.heap.size + 1 + 1, 3, none⟩ = some (valAt w2 ⟨w.heap.size + 1 + 1, 3, none⟩) := (K2.out).there (w.heap.size + 1 + 1, 3) (by simp)
 have f0 : w2.frozen? ⟨w.heap.size + 1 + 1, 3, none⟩ = false := (K2.out).froz (w.heap.size + 1 + 1, 3) (by simp)
 have v1 : w2.cell? ⟨w.heap.size + 1 + 1, 4, none⟩ = some (valAt w2 ⟨w.heap.size + 1 + 1, 4, none⟩) := (K2.out).there (w.heap.size + 1 + 1, 4) (by simp)
 have f1 : w2.frozen? ⟨w.heap.size + 1 + 1, 4, none⟩ = false := (K2.out).froz (w.heap.size + 1 + 1, 4) (by simp)
 have v2 : w2.cell? ⟨w.heap.size + 1 + 1 + 1, 0, none⟩ = some (valAt w2 ⟨w.heap.size + 1 + 1 + 1, 0, none⟩) := (K2.out).there (w.heap.size + 1 + 1 + 1, 0) (by simp)
 have f2 : w2.frozen? ⟨w.heap.size + 1 + 1 + 1, 0, none⟩ = false := (K2.out).froz (w.heap.size + 1 + 1 + 1, 0) (by simp)
 have v3 : w2.cell? ⟨w.heap.size + 1 + 1 + 1, 1, none⟩ = some (valAt w2 ⟨w.heap.size + 1 + 1 + 1, 1, none⟩) := (K2.out).there (w.heap.size + 1 + 1 + 1, 1) (by simp)
 have f3 : w2.frozen? ⟨w.heap.size + 1 + 1 + 1, 1, none⟩ = false := (K2.out).froz (w.heap.size + 1 + 1 + 1, 1) (by simp)
 have v4 : w2.cell? ⟨w.heap.size + 1 + 1 + 1, 2, none⟩ = some (valAt w2 ⟨w.heap.size + 1 + 1 + 1, 2, none⟩) := (K2.out).there (w.heap.size + 1 + 1 + 1, 2) (by simp)
 have f4 : w2.frozen? ⟨w.heap.size + 1 + 1 + 1, 2, none⟩ = false := (K2.out).froz (w.heap.size + 1 + 1 + 1, 2) (by simp)
 have v5 : w2.cell? ⟨w.heap.size + 1 + 1 + 1, 3, none⟩ = some (valAt w2 ⟨w.heap.size + 1 + 1 + 1, 3, none⟩) := (K2.out).there (w.heap.size + 1 + 1 + 1, 3) (by simp)
 have f5 : w2.frozen? ⟨w.heap.size + 1 + 1 + 1, 3, none⟩ = false := (K2.out).froz (w.heap.size + 1 + 1 + 1, 3) (by simp)
 have v6 : w2.cell? ⟨w.heap.size + 1 + 1 + 1, 4, none⟩ = some (valAt w2 ⟨w.heap.size + 1 + 1 + 1, 4, none⟩) := (K2.out).there (w.heap.size + 1 + 1 + 1, 4) (by simp)
 have f6 : w2.frozen? ⟨w.heap.size + 1 + 1 + 1, 4, none⟩ = false := (K2.out).froz (w.heap.size + 1 + 1 + 1, 4) (by simp)
 have z0 : w.heap.size + 1 + 1 < w2.heap.size := (K2.out).lt (w.heap.size + 1 + 1, 3) (by simp)
 have z1 : w.heap.size + 1 + 1 + 1 < w2.heap.size := (K2.out).lt (w.heap.size + 1 + 1 + 1, 0) (by simp)
 go_wp2_with fail
 refine bodyPost_ret (v := .agg #[.int .i64 x, .int .i64 y, .bool s, .bool t, .bool false]) (by simp [results, Try.results93, go_sem, v2, v3, v4, v5, v6]) rfl ⟨rfl, ?_⟩
 have bl := K2.out.bl
 exact (((((bl.setCell (by simp; omega) _).setCell (by simp; omega) _).setCell (by simp; omega) _).setCell (by simp; omega) _).setCell (by simp; omega) _).setCell (by simp; omega) _
theorem pdivided_t (a b c d x y : Int) (s t u : Bool) (w : World) (C1 : ∀ w, Hid (Calls Try.prog 115 #[.agg #[.int .i64 c, .int .i64 d], .int .i64 0] w fun e w' => e = .returned (.bool t) ∧ Below w.heap.size w w')) (C2 : ∀ w, Hid (Calls Try.prog 115 #[.agg #[.int .i64 a, .int .i64 b], .int .i64 (-9223372036854775808)] w fun e w' => e = .returned (.bool true) ∧ Below w.heap.size w w')) (C3 : ∀ w, Hid (Calls Try.prog 115 #[.agg #[.int .i64 c, .int .i64 d], .int .i64 (-1)] w fun e w' => e = .returned (.bool u) ∧ Below w.heap.size w w')) :
   Calls Try.prog 93 #[.agg #[.int .i64 a, .int .i64 b], .agg #[.int .i64 c, .int .i64 d], EffV x y s false false] w fun e w' => e = .returned (EffV x y s t u) ∧ Below w.heap.size w w' := by
 unfold EffV
 go_enter Try.func93, Try.ntmps93
 go_wp2_with fail
 have KI : Keeps (w.heap.size) [(w.heap.size, 0, .int .i64 a), (w.heap.size, 1, .int .i64 b), (w.heap.size + 1, 0, .int .i64 c), (w.heap.size + 1, 1, .int .i64 d), (w.heap.size + 1 + 1, 0, .int .i64 x), (w.heap.size + 1 + 1, 1, .int .i64 y), (w.heap.size + 1 + 1, 2, .bool s)] [(w.heap.size + 1 + 1, 3), (w.heap.size + 1 + 1, 4), (w.heap.size + 1 + 1 + 1, 0), (w.heap.size + 1 + 1 + 1, 1), (w.heap.size + 1 + 1 + 1, 2), (w.heap.size + 1 + 1 + 1, 3), (w.heap.size + 1 + 1 + 1, 4)] w ((((w.alloc (.cells #[.int .i64 a, .int .i64 b] 23)).alloc (.cells #[.int .i64 c, .int .i64 d] 23)).alloc (.cells #[.int .i64 x, .int .i64 y, .bool s, .bool false, .bool false] 37)).alloc (.cells #[.int .i64 0, .int .i64 0, .bool false, .bool false, .bool false] 37)) := by
   refine ⟨?_, ?_, ?_, ?_, by simp; try omega, (((Below.refl _ _).alloc (Nat.le_refl _) _).alloc (by simp) _).alloc (by simp; omega) _ |>.alloc (by simp; omega) _⟩
   · simp only [fm, nm, false_imp_iff, implies_true, and_true]
     exact ⟨by go_simp, by go_simp, by go_simp, by go_simp, by go_simp, by go_simp, by go_simp⟩
   · simp only [fm, nm, false_imp_iff, implies_true, and_true]
     exact ⟨valAt_some (by go_simp), valAt_some (by go_simp), valAt_some (by go_simp), valAt_some (by go_simp), valAt_some (by go_simp), valAt_some (by go_simp), valAt_some (by go_simp)⟩
   · simp only [fm, nm, false_imp_iff, implies_true, and_true]
     exact ⟨by go_simp, by go_simp, by go_simp, by go_simp, by go_simp, by go_simp, by go_simp⟩
   · simp only [fm, nm, false_imp_iff, implies_true, and_true]
     exact ⟨by simp; try omega, by simp; try omega, by simp; try omega, by simp; try omega, by simp; try omega, by simp; try omega, by simp; try omega⟩
 have KI := Lib.hid KI
 generalize (((w.alloc (.cells #[.int .i64 a, .int .i64 b] 23)).alloc (.cells #[.int .i64 c, .int .i64 d] 23)).alloc (.cells #[.int .i64 x, .int .i64 y, .bool s, .bool false, .bool false] 37)).alloc (.cells #[.int .i64 0, .int .i64 0, .bool false, .bool false, .bool false] 37) = W at *
 refine (C1 _).out.mono ?_
 rintro e1 w1 ⟨rfl, hB⟩
 have K1 := Lib.hid ((KI.out).later hB)
 clear hB
 have k0 : w1.cell? ⟨w.heap.size, 0, none⟩ = some (.int .i64 a) := (K1.out).fixed (w.heap.size, 0, .int .i64 a) (by simp)
 have k1 : w1.cell? ⟨w.heap.size, 1, none⟩ = some (.int .i64 b) := (K1.out).fixed (w.heap.size, 1, .int .i64 b) (by simp)
 have k2 : w1.cell? ⟨w.heap.size + 1, 0, none⟩ = some (.int .i64 c) := (K1.out).fixed (w.heap.size + 1, 0, .int .i64 c) (by simp)
 have k3 : w1.cell? ⟨w.heap.size + 1, 1, none⟩ = some (.int .i64 d) := (K1.out).fixed (w.heap.size + 1, 1, .int .i64 d) (by simp)
 have k4 : w1.cell? ⟨w.heap.size + 1 + 1, 0, none⟩ = some (.int .i64 x) := (K1.out).fixed (w.heap.size + 1 + 1, 0, .int .i64 x) (by simp)
 have k5 : w1.cell? ⟨w.heap.size + 1 + 1, 1, none⟩ = some (.int .i64 y) := (K1.out).fixed (w.heap.size + 1 + 1, 1, .int .i64 y) (by simp)
 have k6 : w1.cell? ⟨w.heap.size + 1 + 1, 2, none⟩ = some (.bool s) := (K1.out).fixed (w.heap.size + 1 + 1, 2, .bool s) (by simp)
 have v0 : w1.cell? ⟨w.heap.size + 1 + 1, 3, none⟩ = some (valAt w1 ⟨w.heap.size + 1 + 1, 3, none⟩) := (K1.out).there (w.heap.size + 1 + 1, 3) (by simp)
 have f0 : w1.frozen? ⟨w.heap.size + 1 + 1, 3, none⟩ = false := (K1.out).froz (w.heap.size + 1 + 1, 3) (by simp)
 have v1 : w1.cell? ⟨w.heap.size + 1 + 1, 4, none⟩ = some (valAt w1 ⟨w.heap.size + 1 + 1, 4, none⟩) := (K1.out).there (w.heap.size + 1 + 1, 4) (by simp)
 have f1 : w1.frozen? ⟨w.heap.size + 1 + 1, 4, none⟩ = false := (K1.out).froz (w.heap.size + 1 + 1, 4) (by simp)
 have v2 : w1.cell? ⟨w.heap.size + 1 + 1 + 1, 0, none⟩ = some (valAt w1 ⟨w.heap.size + 1 + 1 + 1, 0, none⟩) := (K1.out).there (w.heap.size + 1 + 1 + 1, 0) (by simp)
 have f2 : w1.frozen? ⟨w.heap.size + 1 + 1 + 1, 0, none⟩ = false := (K1.out).froz (w.heap.size + 1 + 1 + 1, 0) (by simp)
 have v3 : w1.cell? ⟨w.heap.size + 1 + 1 + 1, 1, none⟩ = some (valAt w1 ⟨w.heap.size + 1 + 1 + 1, 1, none⟩) := (K1.out).there (w.heap.size + 1 + 1 + 1, 1) (by simp)
 have f3 : w1.frozen? ⟨w.heap.size + 1 + 1 + 1, 1, none⟩ = false := (K1.out).froz (w.heap.size + 1 + 1 + 1, 1) (by simp)
 have v4 : w1.cell? ⟨w.heap.size + 1 + 1 + 1, 2, none⟩ = some (valAt w1 ⟨w.heap.size + 1 + 1 + 1, 2, none⟩) := (K1.out).there (w.heap.size + 1 + 1 + 1, 2) (by simp)
 have f4 : w1.frozen? ⟨w.heap.size + 1 + 1 + 1, 2, none⟩ = false := (K1.out).froz (w.heap.size + 1 + 1 + 1, 2) (by simp)
 have v5 : w1.cell? ⟨w.heap.size + 1 + 1 + 1, 3, none⟩ = some (valAt w1 ⟨w.heap.size + 1 + 1 + 1, 3, none⟩) := (K1.out).there (w.heap.size + 1 + 1 + 1, 3) (by simp)
 have f5 : w1.frozen? ⟨w.heap.size + 1 + 1 + 1, 3, none⟩ = false := (K1.out).froz (w.heap.size + 1 + 1 + 1, 3) (by simp)
 have v6 : w1.cell? ⟨w.heap.size + 1 + 1 + 1, 4, none⟩ = some (valAt w1 ⟨w.heap.size + 1 + 1 + 1, 4, none⟩) := (K1.out).there (w.heap.size + 1 + 1 + 1, 4) (by simp)
 have f6 : w1.frozen? ⟨w.heap.size + 1 + 1 + 1, 4, none⟩ = false := (K1.out).froz (w.heap.size + 1 + 1 + 1, 4) (by simp)
 have z0 : w.heap.size + 1 + 1 < w1.heap.size := (K1.out).lt (w.heap.size + 1 + 1, 3) (by simp)
 have z1 : w.heap.size + 1 + 1 + 1 < w1.heap.size := (K1.out).lt (w.heap.size + 1 + 1 + 1, 0) (by simp)
 go_wp2_with fail
 have Q := Lib.hid (K1.out.put (w.heap.size + 1 + 1) 3 (.bool t) (by simp) (by omega) (by simp; try omega))
 refine (C2 _).out.mono ?_
 clear k0 k1 k2 k3 k4 k5 k6 v0 f0 v1 f1 v2 f2 v3 f3 v4 f4 v5 f5 v6 f6 z0 z1 K1
 rintro e2 w2 ⟨rfl, hB⟩
 have K2 := Lib.hid ((Q.out).later hB)
 clear hB
 have k0 : w2.cell? ⟨w.heap.size + 1 + 1, 3, none⟩ = some (.bool t) := (K2.out).fixed (w.heap.size + 1 + 1, 3, .bool t) (by simp)
 have k1 : w2.cell? ⟨w.heap.size, 0, none⟩ = some (.int .i64 a) := (K2.out).fixed (w.heap.size, 0, .int .i64 a) (by simp)
 have k2 : w2.cell? ⟨w.heap.size, 1, none⟩ = some (.int .i64 b) := (K2.out).fixed (w.heap.size, 1, .int .i64 b) (by simp)
 have k3 : w2.cell? ⟨w.heap.size + 1, 0, none⟩ = some (.int .i64 c) := (K2.out).fixed (w.heap.size + 1, 0, .int .i64 c) (by simp)
 have k4 : w2.cell? ⟨w.heap.size + 1, 1, none⟩ = some (.int .i64 d) := (K2.out).fixed (w.heap.size + 1, 1, .int .i64 d) (by simp)
 have k5 : w2.cell? ⟨w.heap.size + 1 + 1, 0, none⟩ = some (.int .i64 x) := (K2.out).fixed (w.heap.size + 1 + 1, 0, .int .i64 x) (by simp)
 have k6 : w2.cell? ⟨w.heap.size + 1 + 1, 1, none⟩ = some (.int .i64 y) := (K2.out).fixed (w.heap.size + 1 + 1, 1, .int .i64 y) (by simp)
 have k7 : w2.cell? ⟨w.heap.size + 1 + 1, 2, none⟩ = some (.bool s) := (K2.out).fixed (w.heap.size + 1 + 1, 2, .bool s) (by simp)
 have v0 : w2.cell? ⟨w.heap.size + 1 + 1, 3, none⟩ = some (valAt w2 ⟨w.heap.size + 1 + 1, 3, none⟩) := (K2.out).there (w.heap.size + 1 + 1, 3) (by simp)
 have f0 : w2.frozen? ⟨w.heap.size + 1 + 1, 3, none⟩ = false := (K2.out).froz (w.heap.size + 1 + 1, 3) (by simp)
 have v1 : w2.cell? ⟨w.heap.size + 1 + 1, 4, none⟩ = some (valAt w2 ⟨w.heap.size + 1 + 1, 4, none⟩) := (K2.out).there (w.heap.size + 1 + 1, 4) (by simp)
 have f1 : w2.frozen? ⟨w.heap.size + 1 + 1, 4, none⟩ = false := (K2.out).froz (w.heap.size + 1 + 1, 4) (by simp)
 have v2 : w2.cell? ⟨w.heap.size + 1 + 1 + 1, 0, none⟩ = some (valAt w2 ⟨w.heap.size + 1 + 1 + 1, 0, none⟩) := (K2.out).there (w.heap.size + 1 + 1 + 1, 0) (by simp)
 have f2 : w2.frozen? ⟨w.heap.size + 1 + 1 + 1, 0, none⟩ = false := (K2.out).froz (w.heap.size + 1 + 1 + 1, 0) (by simp)
 have v3 : w2.cell? ⟨w.heap.size + 1 + 1 + 1, 1, none⟩ = some (valAt w2 ⟨w.heap.size + 1 + 1 + 1, 1, none⟩) := (K2.out).there (w.heap.size + 1 + 1 + 1, 1) (by simp)
 have f3 : w2.frozen? ⟨w.heap.size + 1 + 1 + 1, 1, none⟩ = false := (K2.out).froz (w.heap.size + 1 + 1 + 1, 1) (by simp)
 have v4 : w2.cell? ⟨w.heap.size + 1 + 1 + 1, 2, none⟩ = some (valAt w2 ⟨w.heap.size + 1 + 1 + 1, 2, none⟩) := (K2.out).there (w.heap.size + 1 + 1 + 1, 2) (by simp)
 have f4 : w2.frozen? ⟨w.heap.size + 1 + 1 + 1, 2, none⟩ = false := (K2.out).froz (w.heap.size + 1 + 1 + 1, 2) (by simp)
 have v5 : w2.cell? ⟨w.heap.size + 1 + 1 + 1, 3, none⟩ = some (valAt w2 ⟨w.heap.size + 1 + 1 + 1, 3, none⟩) := (K2.out).there (w.heap.size + 1 + 1 + 1, 3) (by simp)
 have f5 : w2.frozen? ⟨w.heap.size + 1 + 1 + 1, 3, none⟩ = false := (K2.out).froz (w.heap.size + 1 + 1 + 1, 3) (by simp)
 have v6 : w2.cell? ⟨w.heap.size + 1 + 1 + 1, 4, none⟩ = some (valAt w2 ⟨w.heap.size + 1 + 1 + 1, 4, none⟩) := (K2.out).there (w.heap.size + 1 + 1 + 1, 4) (by simp)
 have f6 : w2.frozen? ⟨w.heap.size + 1 + 1 + 1, 4, none⟩ = false := (K2.out).froz (w.heap.size + 1 + 1 + 1, 4) (by simp)
 have z0 : w.heap.size + 1 + 1 < w2.heap.size := (K2.out).lt (w.heap.size + 1 + 1, 3) (by simp)
 have z1 : w.heap.size + 1 + 1 + 1 < w2.heap.size := (K2.out).lt (w.heap.size + 1 + 1 + 1, 0) (by simp)
 go_wp2_with fail
 refine (C3 _).out.mono ?_
 clear k0 k1 k2 k3 k4 k5 k6 k7 v0 f0 v1 f1 v2 f2 v3 f3 v4 f4 v5 f5 v6 f6 z0 z1
 rintro e3 w3 ⟨rfl, hB⟩
 have K3 := Lib.hid ((K2.out).later hB)
 clear hB
 have k0 : w3.cell? ⟨w.heap.size + 1 + 1, 3, none⟩ = some (.bool t) := (K3.out).fixed (w.heap.size + 1 + 1, 3, .bool t) (by simp)
 have k1 : w3.cell? ⟨w.heap.size, 0, none⟩ = some (.int .i64 a) := (K3.out).fixed (w.heap.size, 0, .int .i64 a) (by simp)
 have k2 : w3.cell? ⟨w.heap.size, 1, none⟩ = some (.int .i64 b) := (K3.out).fixed (w.heap.size, 1, .int .i64 b) (by simp)
 have k3 : w3.cell? ⟨w.heap.size + 1, 0, none⟩ = some (.int .i64 c) := (K3.out).fixed (w.heap.size + 1, 0, .int .i64 c) (by simp)
 have k4 : w3.cell? ⟨w.heap.size + 1, 1, none⟩ = some (.int .i64 d) := (K3.out).fixed (w.heap.size + 1, 1, .int .i64 d) (by simp)
 have k5 : w3.cell? ⟨w.heap.size + 1 + 1, 0, none⟩ = some (.int .i64 x) := (K3.out).fixed (w.heap.size + 1 + 1, 0, .int .i64 x) (by simp)
 have k6 : w3.cell? ⟨w.heap.size + 1 + 1, 1, none⟩ = some (.int .i64 y) := (K3.out).fixed (w.heap.size + 1 + 1, 1, .int .i64 y) (by simp)
 have k7 : w3.cell? ⟨w.heap.size + 1 + 1, 2, none⟩ = some (.bool s) := (K3.out).fixed (w.heap.size + 1 + 1, 2, .bool s) (by simp)
 have v0 : w3.cell? ⟨w.heap.size + 1 + 1, 3, none⟩ = some (valAt w3 ⟨w.heap.size + 1 + 1, 3, none⟩) := (K3.out).there (w.heap.size + 1 + 1, 3) (by simp)
 have f0 : w3.frozen? ⟨w.heap.size + 1 + 1, 3, none⟩ = false := (K3.out).froz (w.heap.size + 1 + 1, 3) (by simp)
 have v1 : w3.cell? ⟨w.heap.size + 1 + 1, 4, none⟩ = some (valAt w3 ⟨w.heap.size + 1 + 1, 4, none⟩) := (K3.out).there (w.heap.size + 1 + 1, 4) (by simp)
 have f1 : w3.frozen? ⟨w.heap.size + 1 + 1, 4, none⟩ = false := (K3.out).froz (w.heap.size + 1 + 1, 4) (by simp)
 have v2 : w3.cell? ⟨w.heap.size + 1 + 1 + 1, 0, none⟩ = some (valAt w3 ⟨w.heap.size + 1 + 1 + 1, 0, none⟩) := (K3.out).there (w.heap.size + 1 + 1 + 1, 0) (by simp)
 have f2 : w3.frozen? ⟨w.heap.size + 1 + 1 + 1, 0, none⟩ = false := (K3.out).froz (w.heap.size + 1 + 1 + 1, 0) (by simp)
 have v3 : w3.cell? ⟨w.heap.size + 1 + 1 + 1, 1, none⟩ = some (valAt w3 ⟨w.heap.size + 1 + 1 + 1, 1, none⟩) := (K3.out).there (w.heap.size + 1 + 1 + 1, 1) (by simp)
 have f3 : w3.frozen? ⟨w.heap.size + 1 + 1 + 1, 1, none⟩ = false := (K3.out).froz (w.heap.size + 1 + 1 + 1, 1) (by simp)
 have v4 : w3.cell? ⟨w.heap.size + 1 + 1 + 1, 2, none⟩ = some (valAt w3 ⟨w.heap.size + 1 + 1 + 1, 2, none⟩) := (K3.out).there (w.heap.size + 1 + 1 + 1, 2) (by simp)
 have f4 : w3.frozen? ⟨w.heap.size + 1 + 1 + 1, 2, none⟩ = false := (K3.out).froz (w.heap.size + 1 + 1 + 1, 2) (by simp)
 have v5 : w3.cell? ⟨w.heap.size + 1 + 1 + 1, 3, none⟩ = some (valAt w3 ⟨w.heap.size + 1 + 1 + 1, 3, none⟩) := (K3.out).there (w.heap.size + 1 + 1 + 1, 3) (by simp)
 have f5 : w3.frozen? ⟨w.heap.size + 1 + 1 + 1, 3, none⟩ = false := (K3.out).froz (w.heap.size + 1 + 1 + 1, 3) (by simp)
 have v6 : w3.cell? ⟨w.heap.size + 1 + 1 + 1, 4, none⟩ = some (valAt w3 ⟨w.heap.size + 1 + 1 + 1, 4, none⟩) := (K3.out).there (w.heap.size + 1 + 1 + 1, 4) (by simp)
 have f6 : w3.frozen? ⟨w.heap.size + 1 + 1 + 1, 4, none⟩ = false := (K3.out).froz (w.heap.size + 1 + 1 + 1, 4) (by simp)
 have z0 : w.heap.size + 1 + 1 < w3.heap.size := (K3.out).lt (w.heap.size + 1 + 1, 3) (by simp)
 have z1 : w.heap.size + 1 + 1 + 1 < w3.heap.size := (K3.out).lt (w.heap.size + 1 + 1 + 1, 0) (by simp)
 go_wp2_with fail
 refine bodyPost_ret (v := .agg #[.int .i64 x, .int .i64 y, .bool s, .bool t, .bool u]) (by simp [results, Try.results93, go_sem, v2, v3, v4, v5, v6]) rfl ⟨rfl, ?_⟩
 have bl := K3.out.bl
 exact (((((bl.setCell (by simp; omega) _).setCell (by simp; omega) _).setCell (by simp; omega) _).setCell (by simp; omega) _).setCell (by simp; omega) _).setCell (by simp; omega) _
end Go.Proofs.Ytgkhldbnljdeiaa
