/- GlueA, GlueQ, GlueE, GlueO, RngC, RngD, RngM, RngN. -/
import Derived.Test.YtgkhldbnljdeiaaQRngZTToRefZ
import Derived.Test.YtgkhldbnljdeiaaQLawOpsToRangesE
import Derived.Test.YtgkhldbnljdeiaaQShownToLawSets
import Derived.Test.YtgkhldbnljdeiaaQRefJToRefK
import Derived.Test.YtgkhldbnljdeiaaQRangesIToRngB
import Derived.MapKept
import Derived.Carry
set_option maxRecDepth 100000
set_option maxHeartbeats 2000000
set_option linter.unusedSimpArgs false
set_option linter.unusedVariables false
namespace Go.Proofs.Ytgkhldbnljdeiaa
open Go.RowKit RangesMath
def binGood (op k a b c d : Int) : Bool := fits2 op k && decide (checkErr k a b = 0) && decide (checkErr k c d = 0)
def binE (op k a b c d : Int) : RangesMath.Eff := if binGood op k a b c d then binS op k a b c d else ⟨0, 0, false, false, false⟩
def binErr (op k a b c d : Int) : Int := if binGood op k a b c d then 0 else 2
/-- Binary: the effect, or its error. -/
def BinSpec (f : Nat) : Prop := ∀ op k a b c d : Int, In64 a → In64 b → In64 c → In64 d → BinOut f op k a b c d (binE op k a b c d).lo (binE op k a b c d).hi (binE op k a b c d).some (binE op k a b c d).trap (binE op k a b c d).undef (binErr op k a b c d)
def UnaSpec (f : Nat) : Prop := ∀ op k a b : Int, In64 a → In64 b → UnaOut f op k a b (unaryS op k a b).1 (unaryS op k a b).2.1 (unaryS op k a b).2.2
def SmlSpec (f : Nat) : Prop := ∀ a b : Int, In64 a → In64 b → SmlOut f a b (toSmallS a b).1 (toSmallS a b).2.1 (toSmallS a b).2.2
def AssSpec (f : Nat) : Prop := ∀ (op k a b c d : Int) (r : Bool), In64 a → In64 b → In64 c → In64 d → ∀ w : World, Hid (Calls Try.prog f #[.int .i64 op, .int .i64 k, .agg #[.int .i64 a, .int .i64 b], .agg #[.int .i64 c, .int .i64 d], .bool r] w fun e w' => e = .returned (assR op k a b c d r) ∧ Below w.heap.size w w')
def joinS (a b c d : Int) : Int × Int × Int := if b < a ∨ d < c then (0, 0, 2) else (min a c, max b d, 0)
def JoinSpec (f : Nat) : Prop := ∀ a b c d : Int, In64 a → In64 b → In64 c → In64 d → PairOK f a b c d (joinS a b c d).1 (joinS a b c d).2.1 (joinS a b c d).2.2
def meetS (a b c d : Int) : Int × Int × Bool × Int := if b < a ∨ d < c then (0, 0, false, 2) else if max a c ≤ min b d then (max a c, min b d, true, 0) else (0, 0, false, 0)
def MeetSpec (f : Nat) : Prop := ∀ a b c d : Int, In64 a → In64 b → In64 c → In64 d → MeetOK f a b c d (meetS a b c d).1 (meetS a b c d).2.1 (meetS a b c d).2.2.1 (meetS a b c d).2.2.2
theorem in64_of {n : Int} (h : (Lit.int .i64 n).wf = true) : In64 n := ⟨(bounds_i64 h).1, (bounds_i64 h).2⟩
theorem good_parts {op k a b c d : Int} (h : binGood op k a b c d = true) : fitsB op k = true ∧ checkErr k a b = 0 ∧ checkErr k c d = 0 := by
 simp only [binGood, Bool.and_eq_true, decide_eq_true_eq] at h
 exact ⟨h.1.1, h.1.2, h.2⟩
theorem con_good {op k a b c d : Int} (h : binGood op k a b c d = true) : Contains op k a b c d (binS op k a b c d) := by
 obtain ⟨h1, h2, h3⟩ := good_parts h
 have p := check_parts h2
 have q := check_parts h3
 exact con_all op k a b c d h1 p.2.2.1 p.2.1 p.2.2.2 q.2.2.1 q.2.1 q.2.2.2
end Go.Proofs.Ytgkhldbnljdeiaa
namespace Go.Proofs.Ytgkhldbnljdeiaa
open Go.RowKit RangesMath
theorem ref_assume : AssSpec 26 := fun op k a b c d r _ _ _ _ w => Lib.hid (assume_any op k a b c d r w)
theorem ref_unary : UnaSpec 20 := fun op k a b _ _ w => Lib.hid (unary_any op k a b w)
theorem ref_small : SmlSpec 24 := fun a b _ _ w => Lib.hid (toSmall_any a b w)
end Go.Proofs.Ytgkhldbnljdeiaa
namespace Go.Proofs.Ytgkhldbnljdeiaa
open Go.RowKit RangesMath
theorem shown_glue (hb : BinSpec 21) (ha : AssSpec 25) : ShownOK' := by
 intro w
 have i : ∀ n : Int, -9223372036854775808 ≤ n → n ≤ 9223372036854775807 → In64 n := fun n h1 h2 => ⟨h1, h2⟩
 refine shown_of (fun w => ?_) (fun w => ?_) (fun w => ?_) (fun w => ?_) (fun w => ?_) w
 · exact (hb 4 1 1 3 10 20 (i _ (by omega) (by omega)) (i _ (by omega) (by omega)) (i _ (by omega) (by omega)) (i _ (by omega) (by omega)) w).out
 · exact (hb 5 2 5 6 10 10 (i _ (by omega) (by omega)) (i _ (by omega) (by omega)) (i _ (by omega) (by omega)) (i _ (by omega) (by omega)) w).out
 · exact (hb 2 1 (-7) 9 (-2) 3 (i _ (by omega) (by omega)) (i _ (by omega) (by omega)) (i _ (by omega) (by omega)) (i _ (by omega) (by omega)) w).out
 · exact (hb 3 1 (-5) 20 4 4 (i _ (by omega) (by omega)) (i _ (by omega) (by omega)) (i _ (by omega) (by omega)) (i _ (by omega) (by omega)) w).out
 · exact (ha 13 1 0 10 5 5 true (i _ (by omega) (by omega)) (i _ (by omega) (by omega)) (i _ (by omega) (by omega)) (i _ (by omega) (by omega)) w).out
end Go.Proofs.Ytgkhldbnljdeiaa
namespace Go.Proofs.Ytgkhldbnljdeiaa
open Go.RowKit RangesMath
theorem ops_glue (hs : ShownOK') (hu : UnaSpec 19) (hu' : UnaSpec 20) (hb : BinSpec 21) (hb' : BinSpec 22) (ht : SmlSpec 23) (ht' : SmlSpec 24) : WalkRangesOperators := by
 intro o k a b c d w _ _ wa wb wc wd
 have ia := in64_of wa
 have ib := in64_of wb
 have ic := in64_of wc
 have id' := in64_of wd
 exact ops_of hs o k a b c d _ _ _ _ _ _ _ _ _ _ _ _ (hu o k a b ia ib) (hu' o k a b ia ib) (hb o k a b c d ia ib ic id') (hb' o k a b c d ia ib ic id') (ht a b ia ib) (ht' a b ia ib) w
end Go.Proofs.Ytgkhldbnljdeiaa
namespace Go.Proofs.Ytgkhldbnljdeiaa
open Go.RowKit RangesMath
attribute [local go_sem] World.setCell_self
def okB (k a b : Int) : Bool := decide (checkErr k a b = 0)
theorem okB_ne (k a b : Int) : (checkErr k a b != 0) = !okB k a b := by
 unfold okB
 by_cases h : checkErr k a b = 0 <;> simp [h]
/-- areRanges of one range, or two, wherever they lie. -/
def Are1 (k a b : Int) (q : Bool) : Prop := ∀ (g cap : Nat) (w : World), g < w.heap.size → 1 ≤ cap → Cell2 w g 0 a b → Calls Try.prog 31 #[.int .i64 k, .slice (some ⟨g, 0, none⟩) 1 cap] w fun e w' => e = .returned (.bool q) ∧ Below w.heap.size w w'
def Are2 (k a b c d : Int) (q : Bool) : Prop := ∀ (g cap : Nat) (w : World), g < w.heap.size → 2 ≤ cap → Cell2 w g 0 a b → Cell2 w g 2 c d → Calls Try.prog 31 #[.int .i64 k, .slice (some ⟨g, 0, none⟩) 2 cap] w fun e w' => e = .returned (.bool q) ∧ Below w.heap.size w w'
theorem are1_any (k a b : Int) : Are1 k a b (okB k a b) := fun g cap w hg hcap H => pare1 k a b _ g cap w hg hcap (fun w => Lib.hid (pcheck_any k a b w)) _ (okB_ne k a b) (Lib.hid H)
theorem are2_any (k a b c d : Int) : Are2 k a b c d (okB k a b && okB k c d) := fun g cap w hg hcap H H2 => pare2 k a b c d _ _ g cap w hg hcap (fun w => Lib.hid (pcheck_any k a b w)) (fun w => Lib.hid (pcheck_any k c d w)) _ _ (okB_ne k a b) (okB_ne k c d) (Lib.hid H) (Lib.hid H2)
theorem pjoin_no (a b c d : Int) (w : World) (A : Are2 1 a b c d false) :
   Calls Try.prog 15 #[.agg #[.int .i64 a, .int .i64 b], .agg #[.int .i64 c, .int .i64 d]] w fun e w' => e = .returned (.tuple #[.agg #[.int .i64 0, .int .i64 0], .int .i64 2]) ∧ Below w.heap.size w w' := by
 have A := Lib.hid A
 go_enter Try.func15, Try.ntmps15
 go_wp2_with (go_at_call 31; refine (A.out _ _ _ (by simp) (by omega) ⟨by go_simp, by go_simp⟩ ⟨by go_simp, by go_simp⟩).mono ?_; rintro e w' ⟨rfl, hb⟩; obtain ⟨hc, hf⟩ := bcell hb; have hz : w.heap.size + 1 + 1 < w'.heap.size := by have := hb.size; simp at this; omega)
 refine bodyPost_ret (v := .tuple #[.agg #[.int .i64 0, .int .i64 0], .int .i64 2]) (by simp [results, Try.results15, go_sem, hc, hz]) rfl ⟨rfl, ?_⟩
 exact ((((Below.refl _ _).alloc (Nat.le_refl _) _).alloc (by simp) _).alloc (by simp; omega) _).alloc (by simp; omega) _ |>.trans (hb.mono (by simp; omega))
theorem pjoin_yes (a b c d : Int) (w : World) (A : Are2 1 a b c d true) :
   Calls Try.prog 15 #[.agg #[.int .i64 a, .int .i64 b], .agg #[.int .i64 c, .int .i64 d]] w fun e w' => e = .returned (.tuple #[.agg #[.int .i64 (min a c), .int .i64 (max b d)], .int .i64 0]) ∧ Below w.heap.size w w' := by
 have A := Lib.hid A
 go_enter Try.func15, Try.ntmps15
 go_wp2_with (go_at_call 31; refine (A.out _ _ _ (by simp) (by omega) ⟨by go_simp, by go_simp⟩ ⟨by go_simp, by go_simp⟩).mono ?_; rintro e w' ⟨rfl, hb⟩; obtain ⟨hc, hf⟩ := bcell hb; have hz : w.heap.size + 1 + 1 < w'.heap.size := by have := hb.size; simp at this; omega)
 all_goals
   refine bodyPost_ret (v := .tuple #[.agg #[.int .i64 (min a c), .int .i64 (max b d)], .int .i64 0]) (by simp [results, Try.results15, go_sem, hc, hz]; omega) rfl ⟨rfl, ?_⟩
   exact ((((((Below.refl _ _).alloc (Nat.le_refl _) _).alloc (by simp) _).alloc (by simp; omega) _).alloc (by simp; omega) _).trans (hb.mono (by simp; omega))).setCell (by simp; try omega) _ |>.setCell (by simp; try omega) _
end Go.Proofs.Ytgkhldbnljdeiaa
namespace Go.Proofs.Ytgkhldbnljdeiaa
open Go.RowKit RangesMath
attribute [local go_sem] World.setCell_self
theorem pmeet_bad (a b c d : Int) (w : World) (A : Are2 1 a b c d false) :
   Calls Try.prog 17 #[.agg #[.int .i64 a, .int .i64 b], .agg #[.int .i64 c, .int .i64 d]] w fun e w' => e = .returned (.tuple #[.agg #[.int .i64 0, .int .i64 0], .bool false, .int .i64 2]) ∧ Below w.heap.size w w' := by
 have A := Lib.hid A
 go_enter Try.func17, Try.ntmps17
 go_wp2_with (go_at_call 31; refine (A.out _ _ _ (by simp) (by omega) ⟨by go_simp, by go_simp⟩ ⟨by go_simp, by go_simp⟩).mono ?_; rintro e w' ⟨rfl, hb⟩; obtain ⟨hc, hf⟩ := bcell hb; have hz : w.heap.size + 1 + 1 < w'.heap.size := by have := hb.size; simp at this; omega)
 refine bodyPost_ret (v := .tuple #[.agg #[.int .i64 0, .int .i64 0], .bool false, .int .i64 2]) (by simp [results, Try.results17, go_sem, hc, hz]) rfl ⟨rfl, ?_⟩
 exact ((((Below.refl _ _).alloc (Nat.le_refl _) _).alloc (by simp) _).alloc (by simp; omega) _).alloc (by simp; omega) _ |>.trans (hb.mono (by simp; omega))
theorem pmeet_ok (a b c d x y : Int) (s : Bool) (w : World) (A : Are2 1 a b c d true) (hC : ∀ w, Hid (Calls Try.prog 32 #[.agg #[.int .i64 a, .int .i64 b], .agg #[.int .i64 c, .int .i64 d]] w fun e w' => e = .returned (.tuple #[.agg #[.int .i64 x, .int .i64 y], .bool s]) ∧ Below w.heap.size w w')) :
   Calls Try.prog 17 #[.agg #[.int .i64 a, .int .i64 b], .agg #[.int .i64 c, .int .i64 d]] w fun e w' => e = .returned (.tuple #[.agg #[.int .i64 x, .int .i64 y], .bool s, .int .i64 0]) ∧ Below w.heap.size w w' := by
 have A := Lib.hid A
 go_enter Try.func17, Try.ntmps17
 go_wp2_with (first
   | (go_at_call 31; refine (A.out _ _ _ (by simp) (by omega) ⟨by go_simp, by go_simp⟩ ⟨by go_simp, by go_simp⟩).mono ?_; rintro e w' ⟨rfl, hb⟩; obtain ⟨hc, hf⟩ := bcell hb; have hz : w.heap.size + 1 + 1 < w'.heap.size := by have := hb.size; simp at this; omega)
   | (go_at_call 32; refine (hC _).out.mono ?_; rintro e2 w2 ⟨rfl, hb2⟩; obtain ⟨hc2, hf2⟩ := bcell hb2; have hz2 : w.heap.size + 1 + 1 < w2.heap.size := by have := hb2.size; omega))
 refine bodyPost_ret (v := .tuple #[.agg #[.int .i64 x, .int .i64 y], .bool s, .int .i64 0]) (by simp [results, Try.results17, go_sem, hc, hz, hc2, hz2]) rfl ⟨rfl, ?_⟩
 exact (((((((Below.refl _ _).alloc (Nat.le_refl _) _).alloc (by simp) _).alloc (by simp; omega) _).alloc (by simp; omega) _ |>.trans (hb.mono (by simp; omega))).trans (hb2.mono (by omega))).setCell (by simp; try omega) _ |>.setCell (by simp; try omega) _) |>.alloc (by simp; try omega) _
theorem okB_int {a b : Int} (ha : In64 a) (hb : In64 b) : okB 1 a b = decide (a ≤ b) := by
 obtain ⟨h1, h2⟩ := ha
 obtain ⟨h3, h4⟩ := hb
 unfold okB checkErr fullErr fullLow fullHigh
 by_cases h : a ≤ b
 · simp [h]; exact ⟨h1, h4⟩
 · simp [h]
theorem pjoin_spec : JoinSpec 15 := by
 intro a b c d ha hb hc hd w
 have A := are2_any 1 a b c d
 rw [okB_int ha hb, okB_int hc hd] at A
 unfold joinS
 by_cases h : b < a ∨ d < c
 · rw [if_pos h]
   refine pjoin_no a b c d w ?_
   have e : (decide (a ≤ b) && decide (c ≤ d)) = false := by
     rcases h with h | h
     · simp [show ¬ a ≤ b by omega]
     · simp [show ¬ c ≤ d by omega]
   rw [e] at A
   exact A
 · rw [if_neg h]
   refine pjoin_yes a b c d w ?_
   have e : (decide (a ≤ b) && decide (c ≤ d)) = true := by simp; omega
   rw [e] at A
   exact A
theorem pmeet_spec : MeetSpec 17 := by
 intro a b c d ha hb hc hd w
 have A := are2_any 1 a b c d
 rw [okB_int ha hb, okB_int hc hd] at A
 unfold meetS
 by_cases h : b < a ∨ d < c
 · rw [if_pos h]
   refine pmeet_bad a b c d w ?_
   have e : (decide (a ≤ b) && decide (c ≤ d)) = false := by
     rcases h with h | h
     · simp [show ¬ a ≤ b by omega]
     · simp [show ¬ c ≤ d by omega]
   rw [e] at A
   exact A
 · rw [if_neg h]
   have e : (decide (a ≤ b) && decide (c ≤ d)) = true := by simp; omega
   rw [e] at A
   have R := pmeet_ok a b c d _ _ _ w A (fun w => Lib.hid (pcommon_any a b c d w))
   unfold comS at R
   by_cases hm : max a c ≤ min b d
   · rw [if_pos hm] at R ⊢; exact R
   · rw [if_neg hm] at R ⊢; exact R
end Go.Proofs.Ytgkhldbnljdeiaa
namespace Go.Proofs.Ytgkhldbnljdeiaa
open Go.RowKit Go.MapKept
theorem run_put {P : Program} {W : World} {T K E b c : Nat} {es : Array MapEntry} {k : Int} {v : Value} (hT : P.underlying T = some (.map K E)) (hK : P.underlying K = some (.int .i64)) (hb : W.heap.size = b) (hn : Instr.findNow (.int .i64) (.int .i64 k) es.toList 0 = some none) :
   (Instr.mapUpdate T (.map (some b)) (.int .i64 k) v).run P (W.alloc (.map es c)) = .ok () (W.alloc (.map (es.push ⟨.int .i64 k, v, c⟩) (c + 1))) := by
 subst hb
 have hb := (heap_alloc W (.map es c)).1
 have hw : ∀ o, ({ W.alloc (.map es c) with heap := (W.alloc (.map es c)).heap.setIfInBounds W.heap.size o } : World) = W.alloc o := by
   intro o
   have e : (W.alloc (.map es c)).heap.setIfInBounds W.heap.size o = (W.alloc o).heap := by
     apply Array.ext_getElem?
     intro i
     show (W.heap.push (.map es c) |>.setIfInBounds W.heap.size o)[i]? = (W.heap.push o)[i]?
     rw [Array.getElem?_setIfInBounds, Array.getElem?_push, Array.getElem?_push]
     by_cases h : i = W.heap.size
     · subst h; simp
     · rw [if_neg (fun e => h e.symm), if_neg h, if_neg h]
   rw [e]; rfl
 simp [Instr.mapUpdate, run_underlying hT, Go.MapKept.run_getObj_map hb, run_checkKey hK (show IsKey (.int .i64) (.int .i64 k) from rfl), run_findKey hK hn, run_setObj_map _ hb, Result.andThen]
 exact hw _
theorem run_look {P : Program} {w : World} {T K E b c : Nat} {es : Array MapEntry} {k : Int} {i : Nat} {v : Value} (hT : P.underlying T = some (.map K E)) (hK : P.underlying K = some (.int .i64)) (hb : w.heap[b]? = some (.map es c)) (hn : Instr.findNow (.int .i64) (.int .i64 k) es.toList 0 = some (some (i, v))) (ok : Bool) :
   (Instr.lookup T (.map (some b)) (.int .i64 k) ok).run P w = .ok (if ok then .tuple #[v, .bool true] else v) w := by
 simp [Instr.lookup, run_underlying hT, Go.MapKept.run_getObj_map hb, run_checkKey hK (show IsKey (.int .i64) (.int .i64 k) from rfl), run_findKey hK hn, Result.andThen]
theorem run_look_none {P : Program} {w : World} {T K E b c : Nat} {es : Array MapEntry} {k : Int} {z : Value} (hT : P.underlying T = some (.map K E)) (hK : P.underlying K = some (.int .i64)) (hb : w.heap[b]? = some (.map es c)) (hn : Instr.findNow (.int .i64) (.int .i64 k) es.toList 0 = some none) (hz : (zeroValue E).run P w = .ok z w) (ok : Bool) :
   (Instr.lookup T (.map (some b)) (.int .i64 k) ok).run P w = .ok (if ok then .tuple #[z, .bool false] else z) w := by
 simp [Instr.lookup, run_underlying hT, Go.MapKept.run_getObj_map hb, run_checkKey hK (show IsKey (.int .i64) (.int .i64 k) from rfl), run_findKey hK hn, hz, Result.andThen]
theorem run_look_nil {P : Program} {w : World} {T K E : Nat} {k : Int} {z : Value} (hT : P.underlying T = some (.map K E)) (hK : P.underlying K = some (.int .i64)) (hz : (zeroValue E).run P w = .ok z w) (ok : Bool) :
   (Instr.lookup T (.map none) (.int .i64 k) ok).run P w = .ok (if ok then .tuple #[z, .bool false] else z) w := by
 have hn : Instr.findNow (.int .i64) (.int .i64 k) (#[] : Array MapEntry).toList 0 = some none := rfl
 simp [Instr.lookup, run_underlying hT, run_checkKey hK (show IsKey (.int .i64) (.int .i64 k) from rfl), run_findKey hK hn, hz, Result.andThen]
end Go.Proofs.Ytgkhldbnljdeiaa
namespace Go.Proofs.Ytgkhldbnljdeiaa
open Go.RowKit Go.MapKept
/-- A call returns a new map with these entries. -/
def MapOut (es : Array MapEntry) (n : Nat) (w : World) (e : Ending) (w' : World) : Prop := ∃ b, e = .returned (.map (some b)) ∧ w'.heap[b]? = some (.map es n) ∧ w.heap.size ≤ b ∧ b < w'.heap.size ∧ Below w.heap.size w w'
theorem pcomparisons_1 (w : World) : Calls Try.prog 45 #[.int .i64 1] w (MapOut #[⟨.int .i64 11, .func (.func 71) #[] #[], 0⟩, ⟨.int .i64 12, .func (.func 72) #[] #[], 1⟩, ⟨.int .i64 13, .func (.func 73) #[] #[], 2⟩, ⟨.int .i64 14, .func (.func 75) #[] #[], 3⟩, ⟨.int .i64 15, .func (.func 76) #[] #[], 4⟩, ⟨.int .i64 16, .func (.func 77) #[] #[], 5⟩] 6 w) := by
 have hmm := @run_makeMap Try.prog
 have p0 : ∀ (v0 : Value), (Instr.mapUpdate 85 (.map (some (w.heap.size))) (.int .i64 11) v0).run Try.prog ((w).alloc (.map #[] 0)) = .ok () ((w).alloc (.map #[⟨.int .i64 11, v0, 0⟩] 1)) := fun v0 => run_put Try.underlying85 Try.underlying3 rfl rfl
 have p1 : ∀ (v0 v1 : Value), (Instr.mapUpdate 85 (.map (some (w.heap.size))) (.int .i64 12) v1).run Try.prog ((w).alloc (.map #[⟨.int .i64 11, v0, 0⟩] 1)) = .ok () ((w).alloc (.map #[⟨.int .i64 11, v0, 0⟩, ⟨.int .i64 12, v1, 1⟩] 2)) := fun v0 v1 => run_put Try.underlying85 Try.underlying3 rfl rfl
 have p2 : ∀ (v0 v1 v2 : Value), (Instr.mapUpdate 85 (.map (some (w.heap.size))) (.int .i64 13) v2).run Try.prog ((w).alloc (.map #[⟨.int .i64 11, v0, 0⟩, ⟨.int .i64 12, v1, 1⟩] 2)) = .ok () ((w).alloc (.map #[⟨.int .i64 11, v0, 0⟩, ⟨.int .i64 12, v1, 1⟩, ⟨.int .i64 13, v2, 2⟩] 3)) := fun v0 v1 v2 => run_put Try.underlying85 Try.underlying3 rfl rfl
 have p3 : ∀ (v0 v1 v2 v3 : Value), (Instr.mapUpdate 85 (.map (some (w.heap.size))) (.int .i64 14) v3).run Try.prog ((w).alloc (.map #[⟨.int .i64 11, v0, 0⟩, ⟨.int .i64 12, v1, 1⟩, ⟨.int .i64 13, v2, 2⟩] 3)) = .ok () ((w).alloc (.map #[⟨.int .i64 11, v0, 0⟩, ⟨.int .i64 12, v1, 1⟩, ⟨.int .i64 13, v2, 2⟩, ⟨.int .i64 14, v3, 3⟩] 4)) := fun v0 v1 v2 v3 => run_put Try.underlying85 Try.underlying3 rfl rfl
 have p4 : ∀ (v0 v1 v2 v3 v4 : Value), (Instr.mapUpdate 85 (.map (some (w.heap.size))) (.int .i64 15) v4).run Try.prog ((w).alloc (.map #[⟨.int .i64 11, v0, 0⟩, ⟨.int .i64 12, v1, 1⟩, ⟨.int .i64 13, v2, 2⟩, ⟨.int .i64 14, v3, 3⟩] 4)) = .ok () ((w).alloc (.map #[⟨.int .i64 11, v0, 0⟩, ⟨.int .i64 12, v1, 1⟩, ⟨.int .i64 13, v2, 2⟩, ⟨.int .i64 14, v3, 3⟩, ⟨.int .i64 15, v4, 4⟩] 5)) := fun v0 v1 v2 v3 v4 => run_put Try.underlying85 Try.underlying3 rfl rfl
 have p5 : ∀ (v0 v1 v2 v3 v4 v5 : Value), (Instr.mapUpdate 85 (.map (some (w.heap.size))) (.int .i64 16) v5).run Try.prog ((w).alloc (.map #[⟨.int .i64 11, v0, 0⟩, ⟨.int .i64 12, v1, 1⟩, ⟨.int .i64 13, v2, 2⟩, ⟨.int .i64 14, v3, 3⟩, ⟨.int .i64 15, v4, 4⟩] 5)) = .ok () ((w).alloc (.map #[⟨.int .i64 11, v0, 0⟩, ⟨.int .i64 12, v1, 1⟩, ⟨.int .i64 13, v2, 2⟩, ⟨.int .i64 14, v3, 3⟩, ⟨.int .i64 15, v4, 4⟩, ⟨.int .i64 16, v5, 5⟩] 6)) := fun v0 v1 v2 v3 v4 v5 => run_put Try.underlying85 Try.underlying3 rfl rfl
 go_enter Try.func45, Try.ntmps45
 go_wp2
 go_ret
 exact ⟨w.heap.size, rfl, (by have := (heap_alloc w (.map #[⟨.int .i64 11, .func (.func 71) #[] #[], 0⟩, ⟨.int .i64 12, .func (.func 72) #[] #[], 1⟩, ⟨.int .i64 13, .func (.func 73) #[] #[], 2⟩, ⟨.int .i64 14, .func (.func 75) #[] #[], 3⟩, ⟨.int .i64 15, .func (.func 76) #[] #[], 4⟩, ⟨.int .i64 16, .func (.func 77) #[] #[], 5⟩] 6)).1; simpa using this), by simp, by simp, (Below.refl _ _).alloc (Nat.le_refl _) _⟩
theorem pcomparisons_2 (w : World) : Calls Try.prog 45 #[.int .i64 2] w (MapOut #[⟨.int .i64 11, .func (.func 71) #[] #[], 0⟩, ⟨.int .i64 12, .func (.func 72) #[] #[], 1⟩, ⟨.int .i64 13, .func (.func 73) #[] #[], 2⟩, ⟨.int .i64 14, .func (.func 75) #[] #[], 3⟩, ⟨.int .i64 15, .func (.func 76) #[] #[], 4⟩, ⟨.int .i64 16, .func (.func 77) #[] #[], 5⟩] 6 w) := by
 have hmm := @run_makeMap Try.prog
 have p0 : ∀ (v0 : Value), (Instr.mapUpdate 85 (.map (some (w.heap.size))) (.int .i64 11) v0).run Try.prog ((w).alloc (.map #[] 0)) = .ok () ((w).alloc (.map #[⟨.int .i64 11, v0, 0⟩] 1)) := fun v0 => run_put Try.underlying85 Try.underlying3 rfl rfl
 have p1 : ∀ (v0 v1 : Value), (Instr.mapUpdate 85 (.map (some (w.heap.size))) (.int .i64 12) v1).run Try.prog ((w).alloc (.map #[⟨.int .i64 11, v0, 0⟩] 1)) = .ok () ((w).alloc (.map #[⟨.int .i64 11, v0, 0⟩, ⟨.int .i64 12, v1, 1⟩] 2)) := fun v0 v1 => run_put Try.underlying85 Try.underlying3 rfl rfl
 have p2 : ∀ (v0 v1 v2 : Value), (Instr.mapUpdate 85 (.map (some (w.heap.size))) (.int .i64 13) v2).run Try.prog ((w).alloc (.map #[⟨.int .i64 11, v0, 0⟩, ⟨.int .i64 12, v1, 1⟩] 2)) = .ok () ((w).alloc (.map #[⟨.int .i64 11, v0, 0⟩, ⟨.int .i64 12, v1, 1⟩, ⟨.int .i64 13, v2, 2⟩] 3)) := fun v0 v1 v2 => run_put Try.underlying85 Try.underlying3 rfl rfl
 have p3 : ∀ (v0 v1 v2 v3 : Value), (Instr.mapUpdate 85 (.map (some (w.heap.size))) (.int .i64 14) v3).run Try.prog ((w).alloc (.map #[⟨.int .i64 11, v0, 0⟩, ⟨.int .i64 12, v1, 1⟩, ⟨.int .i64 13, v2, 2⟩] 3)) = .ok () ((w).alloc (.map #[⟨.int .i64 11, v0, 0⟩, ⟨.int .i64 12, v1, 1⟩, ⟨.int .i64 13, v2, 2⟩, ⟨.int .i64 14, v3, 3⟩] 4)) := fun v0 v1 v2 v3 => run_put Try.underlying85 Try.underlying3 rfl rfl
 have p4 : ∀ (v0 v1 v2 v3 v4 : Value), (Instr.mapUpdate 85 (.map (some (w.heap.size))) (.int .i64 15) v4).run Try.prog ((w).alloc (.map #[⟨.int .i64 11, v0, 0⟩, ⟨.int .i64 12, v1, 1⟩, ⟨.int .i64 13, v2, 2⟩, ⟨.int .i64 14, v3, 3⟩] 4)) = .ok () ((w).alloc (.map #[⟨.int .i64 11, v0, 0⟩, ⟨.int .i64 12, v1, 1⟩, ⟨.int .i64 13, v2, 2⟩, ⟨.int .i64 14, v3, 3⟩, ⟨.int .i64 15, v4, 4⟩] 5)) := fun v0 v1 v2 v3 v4 => run_put Try.underlying85 Try.underlying3 rfl rfl
 have p5 : ∀ (v0 v1 v2 v3 v4 v5 : Value), (Instr.mapUpdate 85 (.map (some (w.heap.size))) (.int .i64 16) v5).run Try.prog ((w).alloc (.map #[⟨.int .i64 11, v0, 0⟩, ⟨.int .i64 12, v1, 1⟩, ⟨.int .i64 13, v2, 2⟩, ⟨.int .i64 14, v3, 3⟩, ⟨.int .i64 15, v4, 4⟩] 5)) = .ok () ((w).alloc (.map #[⟨.int .i64 11, v0, 0⟩, ⟨.int .i64 12, v1, 1⟩, ⟨.int .i64 13, v2, 2⟩, ⟨.int .i64 14, v3, 3⟩, ⟨.int .i64 15, v4, 4⟩, ⟨.int .i64 16, v5, 5⟩] 6)) := fun v0 v1 v2 v3 v4 v5 => run_put Try.underlying85 Try.underlying3 rfl rfl
 go_enter Try.func45, Try.ntmps45
 go_wp2
 go_ret
 exact ⟨w.heap.size, rfl, (by have := (heap_alloc w (.map #[⟨.int .i64 11, .func (.func 71) #[] #[], 0⟩, ⟨.int .i64 12, .func (.func 72) #[] #[], 1⟩, ⟨.int .i64 13, .func (.func 73) #[] #[], 2⟩, ⟨.int .i64 14, .func (.func 75) #[] #[], 3⟩, ⟨.int .i64 15, .func (.func 76) #[] #[], 4⟩, ⟨.int .i64 16, .func (.func 77) #[] #[], 5⟩] 6)).1; simpa using this), by simp, by simp, (Below.refl _ _).alloc (Nat.le_refl _) _⟩
theorem pcomparisons_3 (w : World) : Calls Try.prog 45 #[.int .i64 3] w (MapOut #[⟨.int .i64 11, .func (.func 71) #[] #[], 0⟩, ⟨.int .i64 12, .func (.func 72) #[] #[], 1⟩] 2 w) := by
 have hmm := @run_makeMap Try.prog
 have p0 : ∀ (v0 : Value), (Instr.mapUpdate 85 (.map (some (w.heap.size))) (.int .i64 11) v0).run Try.prog ((w).alloc (.map #[] 0)) = .ok () ((w).alloc (.map #[⟨.int .i64 11, v0, 0⟩] 1)) := fun v0 => run_put Try.underlying85 Try.underlying3 rfl rfl
 have p1 : ∀ (v0 v1 : Value), (Instr.mapUpdate 85 (.map (some (w.heap.size))) (.int .i64 12) v1).run Try.prog ((w).alloc (.map #[⟨.int .i64 11, v0, 0⟩] 1)) = .ok () ((w).alloc (.map #[⟨.int .i64 11, v0, 0⟩, ⟨.int .i64 12, v1, 1⟩] 2)) := fun v0 v1 => run_put Try.underlying85 Try.underlying3 rfl rfl
 go_enter Try.func45, Try.ntmps45
 go_wp2
 go_ret
 exact ⟨w.heap.size, rfl, (by have := (heap_alloc w (.map #[⟨.int .i64 11, .func (.func 71) #[] #[], 0⟩, ⟨.int .i64 12, .func (.func 72) #[] #[], 1⟩] 2)).1; simpa using this), by simp, by simp, (Below.refl _ _).alloc (Nat.le_refl _) _⟩
theorem pcomparisons_no (k : Int) (h1 : (k == 1) = false) (h2 : (k == 2) = false) (h3 : (k == 3) = false) (w : World) : Calls Try.prog 45 #[.int .i64 k] w fun e w' => e = .returned (.map none) ∧ w = w' := by
 go_enter Try.func45, Try.ntmps45
 go_wp2
 go_ret
 exact ⟨rfl, rfl⟩
theorem pconnectives (w : World) : Calls Try.prog 61 #[] w (MapOut #[⟨.int .i64 17, .func (.func 106) #[] #[], 0⟩, ⟨.int .i64 18, .func (.func 107) #[] #[], 1⟩] 2 w) := by
 have hmm := @run_makeMap Try.prog
 have p0 : ∀ (v0 : Value), (Instr.mapUpdate 100 (.map (some (w.heap.size))) (.int .i64 17) v0).run Try.prog ((w).alloc (.map #[] 0)) = .ok () ((w).alloc (.map #[⟨.int .i64 17, v0, 0⟩] 1)) := fun v0 => run_put Try.underlying100 Try.underlying3 rfl rfl
 have p1 : ∀ (v0 v1 : Value), (Instr.mapUpdate 100 (.map (some (w.heap.size))) (.int .i64 18) v1).run Try.prog ((w).alloc (.map #[⟨.int .i64 17, v0, 0⟩] 1)) = .ok () ((w).alloc (.map #[⟨.int .i64 17, v0, 0⟩, ⟨.int .i64 18, v1, 1⟩] 2)) := fun v0 v1 => run_put Try.underlying100 Try.underlying3 rfl rfl
 go_enter Try.func61, Try.ntmps61
 go_wp2
 go_ret
 exact ⟨w.heap.size, rfl, (by have := (heap_alloc w (.map #[⟨.int .i64 17, .func (.func 106) #[] #[], 0⟩, ⟨.int .i64 18, .func (.func 107) #[] #[], 1⟩] 2)).1; simpa using this), by simp, by simp, (Below.refl _ _).alloc (Nat.le_refl _) _⟩
/-- The map of a kind, and the cell of the kind that its closures look at. -/
def BoxOut (k : Int) (es : Nat → Array MapEntry) (n : Nat) (w : World) (e : Ending) (w' : World) : Prop := ∃ b, e = .returned (.map (some b)) ∧ w'.heap[b]? = some (.map (es w.heap.size) n) ∧ b < w'.heap.size ∧ w'.cell? ⟨w.heap.size, 0, none⟩ = some (.int .i64 k) ∧ w.heap.size < w'.heap.size ∧ Below w.heap.size w w'
def bitwiseEs (n : Nat) : Array MapEntry := #[⟨.int .i64 8, .func (.func 82) #[] #[.pointer (some ⟨n, 0, none⟩)], 0⟩, ⟨.int .i64 9, .func (.func 86) #[] #[.pointer (some ⟨n, 0, none⟩)], 1⟩, ⟨.int .i64 10, .func (.func 88) #[] #[.pointer (some ⟨n, 0, none⟩)], 2⟩]
theorem pbitwise (k : Int) (w : World) : Calls Try.prog 59 #[.int .i64 k] w (BoxOut k bitwiseEs 3 w) := by
 have hmm := @run_makeMap Try.prog
 have p0 : ∀ (v0 : Value), (Instr.mapUpdate 100 (.map (some (w.heap.size + 1))) (.int .i64 8) v0).run Try.prog (((w.alloc (.cells #[.int .i64 k] 3))).alloc (.map #[] 0)) = .ok () (((w.alloc (.cells #[.int .i64 k] 3))).alloc (.map #[⟨.int .i64 8, v0, 0⟩] 1)) := fun v0 => run_put Try.underlying100 Try.underlying3 (by simp) rfl
 have p1 : ∀ (v0 v1 : Value), (Instr.mapUpdate 100 (.map (some (w.heap.size + 1))) (.int .i64 9) v1).run Try.prog (((w.alloc (.cells #[.int .i64 k] 3))).alloc (.map #[⟨.int .i64 8, v0, 0⟩] 1)) = .ok () (((w.alloc (.cells #[.int .i64 k] 3))).alloc (.map #[⟨.int .i64 8, v0, 0⟩, ⟨.int .i64 9, v1, 1⟩] 2)) := fun v0 v1 => run_put Try.underlying100 Try.underlying3 (by simp) rfl
 have p2 : ∀ (v0 v1 v2 : Value), (Instr.mapUpdate 100 (.map (some (w.heap.size + 1))) (.int .i64 10) v2).run Try.prog (((w.alloc (.cells #[.int .i64 k] 3))).alloc (.map #[⟨.int .i64 8, v0, 0⟩, ⟨.int .i64 9, v1, 1⟩] 2)) = .ok () (((w.alloc (.cells #[.int .i64 k] 3))).alloc (.map #[⟨.int .i64 8, v0, 0⟩, ⟨.int .i64 9, v1, 1⟩, ⟨.int .i64 10, v2, 2⟩] 3)) := fun v0 v1 v2 => run_put Try.underlying100 Try.underlying3 (by simp) rfl
 go_enter Try.func59, Try.ntmps59
 go_wp2
 go_ret
 exact ⟨w.heap.size + 1, rfl, (by have := (heap_alloc (w.alloc (.cells #[.int .i64 k] 3)) (.map (bitwiseEs w.heap.size) 3)).1; simpa [bitwiseEs] using this), by simp, by go_simp, by simp; omega, ((Below.refl _ _).alloc (Nat.le_refl _) _).alloc (by simp) _⟩
def arithmeticEs (n : Nat) : Array MapEntry := #[⟨.int .i64 1, .func (.func 89) #[] #[.pointer (some ⟨n, 0, none⟩)], 0⟩, ⟨.int .i64 2, .func (.func 92) #[] #[.pointer (some ⟨n, 0, none⟩)], 1⟩, ⟨.int .i64 3, .func (.func 96) #[] #[], 2⟩, ⟨.int .i64 4, .func (.func 98) #[] #[.pointer (some ⟨n, 0, none⟩)], 3⟩, ⟨.int .i64 5, .func (.func 100) #[] #[.pointer (some ⟨n, 0, none⟩)], 4⟩, ⟨.int .i64 6, .func (.func 101) #[] #[.pointer (some ⟨n, 0, none⟩)], 5⟩, ⟨.int .i64 7, .func (.func 104) #[] #[.pointer (some ⟨n, 0, none⟩)], 6⟩]
theorem parithmetic (k : Int) (w : World) : Calls Try.prog 60 #[.int .i64 k] w (BoxOut k arithmeticEs 7 w) := by
 have hmm := @run_makeMap Try.prog
 have p0 : ∀ (v0 : Value), (Instr.mapUpdate 100 (.map (some (w.heap.size + 1))) (.int .i64 1) v0).run Try.prog (((w.alloc (.cells #[.int .i64 k] 3))).alloc (.map #[] 0)) = .ok () (((w.alloc (.cells #[.int .i64 k] 3))).alloc (.map #[⟨.int .i64 1, v0, 0⟩] 1)) := fun v0 => run_put Try.underlying100 Try.underlying3 (by simp) rfl
 have p1 : ∀ (v0 v1 : Value), (Instr.mapUpdate 100 (.map (some (w.heap.size + 1))) (.int .i64 2) v1).run Try.prog (((w.alloc (.cells #[.int .i64 k] 3))).alloc (.map #[⟨.int .i64 1, v0, 0⟩] 1)) = .ok () (((w.alloc (.cells #[.int .i64 k] 3))).alloc (.map #[⟨.int .i64 1, v0, 0⟩, ⟨.int .i64 2, v1, 1⟩] 2)) := fun v0 v1 => run_put Try.underlying100 Try.underlying3 (by simp) rfl
 have p2 : ∀ (v0 v1 v2 : Value), (Instr.mapUpdate 100 (.map (some (w.heap.size + 1))) (.int .i64 3) v2).run Try.prog (((w.alloc (.cells #[.int .i64 k] 3))).alloc (.map #[⟨.int .i64 1, v0, 0⟩, ⟨.int .i64 2, v1, 1⟩] 2)) = .ok () (((w.alloc (.cells #[.int .i64 k] 3))).alloc (.map #[⟨.int .i64 1, v0, 0⟩, ⟨.int .i64 2, v1, 1⟩, ⟨.int .i64 3, v2, 2⟩] 3)) := fun v0 v1 v2 => run_put Try.underlying100 Try.underlying3 (by simp) rfl
 have p3 : ∀ (v0 v1 v2 v3 : Value), (Instr.mapUpdate 100 (.map (some (w.heap.size + 1))) (.int .i64 4) v3).run Try.prog (((w.alloc (.cells #[.int .i64 k] 3))).alloc (.map #[⟨.int .i64 1, v0, 0⟩, ⟨.int .i64 2, v1, 1⟩, ⟨.int .i64 3, v2, 2⟩] 3)) = .ok () (((w.alloc (.cells #[.int .i64 k] 3))).alloc (.map #[⟨.int .i64 1, v0, 0⟩, ⟨.int .i64 2, v1, 1⟩, ⟨.int .i64 3, v2, 2⟩, ⟨.int .i64 4, v3, 3⟩] 4)) := fun v0 v1 v2 v3 => run_put Try.underlying100 Try.underlying3 (by simp) rfl
 have p4 : ∀ (v0 v1 v2 v3 v4 : Value), (Instr.mapUpdate 100 (.map (some (w.heap.size + 1))) (.int .i64 5) v4).run Try.prog (((w.alloc (.cells #[.int .i64 k] 3))).alloc (.map #[⟨.int .i64 1, v0, 0⟩, ⟨.int .i64 2, v1, 1⟩, ⟨.int .i64 3, v2, 2⟩, ⟨.int .i64 4, v3, 3⟩] 4)) = .ok () (((w.alloc (.cells #[.int .i64 k] 3))).alloc (.map #[⟨.int .i64 1, v0, 0⟩, ⟨.int .i64 2, v1, 1⟩, ⟨.int .i64 3, v2, 2⟩, ⟨.int .i64 4, v3, 3⟩, ⟨.int .i64 5, v4, 4⟩] 5)) := fun v0 v1 v2 v3 v4 => run_put Try.underlying100 Try.underlying3 (by simp) rfl
 have p5 : ∀ (v0 v1 v2 v3 v4 v5 : Value), (Instr.mapUpdate 100 (.map (some (w.heap.size + 1))) (.int .i64 6) v5).run Try.prog (((w.alloc (.cells #[.int .i64 k] 3))).alloc (.map #[⟨.int .i64 1, v0, 0⟩, ⟨.int .i64 2, v1, 1⟩, ⟨.int .i64 3, v2, 2⟩, ⟨.int .i64 4, v3, 3⟩, ⟨.int .i64 5, v4, 4⟩] 5)) = .ok () (((w.alloc (.cells #[.int .i64 k] 3))).alloc (.map #[⟨.int .i64 1, v0, 0⟩, ⟨.int .i64 2, v1, 1⟩, ⟨.int .i64 3, v2, 2⟩, ⟨.int .i64 4, v3, 3⟩, ⟨.int .i64 5, v4, 4⟩, ⟨.int .i64 6, v5, 5⟩] 6)) := fun v0 v1 v2 v3 v4 v5 => run_put Try.underlying100 Try.underlying3 (by simp) rfl
 have p6 : ∀ (v0 v1 v2 v3 v4 v5 v6 : Value), (Instr.mapUpdate 100 (.map (some (w.heap.size + 1))) (.int .i64 7) v6).run Try.prog (((w.alloc (.cells #[.int .i64 k] 3))).alloc (.map #[⟨.int .i64 1, v0, 0⟩, ⟨.int .i64 2, v1, 1⟩, ⟨.int .i64 3, v2, 2⟩, ⟨.int .i64 4, v3, 3⟩, ⟨.int .i64 5, v4, 4⟩, ⟨.int .i64 6, v5, 5⟩] 6)) = .ok () (((w.alloc (.cells #[.int .i64 k] 3))).alloc (.map #[⟨.int .i64 1, v0, 0⟩, ⟨.int .i64 2, v1, 1⟩, ⟨.int .i64 3, v2, 2⟩, ⟨.int .i64 4, v3, 3⟩, ⟨.int .i64 5, v4, 4⟩, ⟨.int .i64 6, v5, 5⟩, ⟨.int .i64 7, v6, 6⟩] 7)) := fun v0 v1 v2 v3 v4 v5 v6 => run_put Try.underlying100 Try.underlying3 (by simp) rfl
 go_enter Try.func60, Try.ntmps60
 go_wp2
 go_ret
 exact ⟨w.heap.size + 1, rfl, (by have := (heap_alloc (w.alloc (.cells #[.int .i64 k] 3)) (.map (arithmeticEs w.heap.size) 7)).1; simpa [arithmeticEs] using this), by simp, by go_simp, by simp; omega, ((Below.refl _ _).alloc (Nat.le_refl _) _).alloc (by simp) _⟩
end Go.Proofs.Ytgkhldbnljdeiaa
