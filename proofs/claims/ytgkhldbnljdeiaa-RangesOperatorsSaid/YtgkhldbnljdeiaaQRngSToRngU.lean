/- RngS, RngT, RngU. -/
import Derived.Test.YtgkhldbnljdeiaaQRngQToRngR
set_option maxRecDepth 100000
set_option maxHeartbeats 2000000
set_option linter.unusedSimpArgs false
set_option linter.unusedVariables false
namespace Go.Proofs.Ytgkhldbnljdeiaa
open Go.RowKit
attribute [local go_sem] World.setCell_self
theorem run_eql_nil (w : World) : (binOp .eql 88 .nilFunc .nilFunc).run Try.prog w = .ok (.bool true) w := by kernel_rfl
theorem run_eql_fn (f : Nat) (w : World) : (binOp .eql 88 (.func (.func f) #[] #[]) .nilFunc).run Try.prog w = .ok (.bool false) w := by kernel_rfl
theorem run_neq_nil (w : World) : (binOp .neq 88 .nilFunc .nilFunc).run Try.prog w = .ok (.bool false) w := by kernel_rfl
theorem run_neq_fn (f : Nat) (w : World) : (binOp .neq 88 (.func (.func f) #[] #[]) .nilFunc).run Try.prog w = .ok (.bool true) w := by kernel_rfl
def fnV (f : Nat) : Value := .func (.func f) #[] #[]
/-- From this world on the map m has the answer v for op. -/
def Asks (m : Value) (w0 : World) (op : Int) (v : Value) : Prop := ∀ w2, Below w0.heap.size w0 w2 → (Instr.lookup 85 m (.int .i64 op) false).run Try.prog w2 = .ok v w2
/-- comparisons returns a map with these answers. -/
def CompOut (l : List (Int × Value)) (w : World) (e : Ending) (w' : World) : Prop := ∃ m, e = .returned m ∧ Below w.heap.size w w' ∧ ∀ p ∈ l, Asks m w' p.1 p.2
theorem passume_nil (op k a b c d : Int) (r : Bool) (w : World) (C : ∀ w, Hid (Calls Try.prog 45 #[.int .i64 k] w (CompOut [(op, .nilFunc)] w))) :
   Calls Try.prog 25 #[.int .i64 op, .int .i64 k, .agg #[.int .i64 a, .int .i64 b], .agg #[.int .i64 c, .int .i64 d], .bool r] w fun e w' => e = .returned (assV ⟨0, 0, 0, 0, false⟩ 2) ∧ Below w.heap.size w w' := by
 have q0 := run_eql_nil
 have q1 := run_eql_fn
 go_enter Try.func25, Try.ntmps25
 go_wp2_with fail
 have I := narIn w a b c d
 generalize ((((w.alloc (.cells #[.int .i64 a, .int .i64 b] 23)).alloc (.cells #[.int .i64 c, .int .i64 d] 23)).alloc (.cells #[.int .i64 0, .int .i64 0] 23)).alloc (.cells #[.int .i64 0, .int .i64 0] 23)) = W at *
 refine (C _).out.mono ?_
 rintro e w1 ⟨m, rfl, hb, hM⟩
 have L := hM _ (List.mem_singleton.2 rfl) w1 (Below.refl _ _)
 dsimp only at L
 have I := I.later hb
 clear hM hb C
 obtain ⟨a0, a1, b0, b1, u0, u1, v0, v1, fx0, fx1, fy0, fy1, sz, bl⟩ := I
 go_wp2
 refine bodyPost_ret (v := assV ⟨0, 0, 0, 0, false⟩ 2) (by simp [results, Try.results25, go_sem, assV, u0, u1, v0, v1]) rfl ⟨rfl, bl⟩
theorem passume_bad (op k a b c d : Int) (r : Bool) (f : Nat) (w : World) (C : ∀ w, Hid (Calls Try.prog 45 #[.int .i64 k] w (CompOut [(op, fnV f)] w))) (A : Are2 k a b c d false) :
   Calls Try.prog 25 #[.int .i64 op, .int .i64 k, .agg #[.int .i64 a, .int .i64 b], .agg #[.int .i64 c, .int .i64 d], .bool r] w fun e w' => e = .returned (assV ⟨0, 0, 0, 0, false⟩ 2) ∧ Below w.heap.size w w' := by
 have A := Lib.hid A
 have q0 := run_eql_nil
 have q1 := run_eql_fn
 go_enter Try.func25, Try.ntmps25
 go_wp2_with fail
 have I := narIn w a b c d
 generalize ((((w.alloc (.cells #[.int .i64 a, .int .i64 b] 23)).alloc (.cells #[.int .i64 c, .int .i64 d] 23)).alloc (.cells #[.int .i64 0, .int .i64 0] 23)).alloc (.cells #[.int .i64 0, .int .i64 0] 23)) = W at *
 refine (C _).out.mono ?_
 rintro e w1 ⟨m, rfl, hb, hM⟩
 have L := hM _ (List.mem_singleton.2 rfl) w1 (Below.refl _ _)
 dsimp only [fnV] at L
 have I := I.later hb
 clear hM hb C
 have J := Lib.hid I
 obtain ⟨a0, a1, b0, b1, u0, u1, v0, v1, fx0, fx1, fy0, fy1, sz, bl⟩ := I
 go_wp2_with fail
 refine (A.out _ _ _ (by simp) (by omega) ⟨by go_simp, by go_simp⟩ ⟨by go_simp, by go_simp⟩).mono ?_
 clear a0 a1 b0 b1 u0 u1 v0 v1 fx0 fx1 fy0 fy1 sz bl L
 rintro e w2 ⟨rfl, hb⟩
 have I := J.out.later (((Below.refl _ _).alloc (Nat.le_refl _) _).trans (hb.mono (by simp)))
 clear J hb
 obtain ⟨a0, a1, b0, b1, u0, u1, v0, v1, fx0, fx1, fy0, fy1, sz, bl⟩ := I
 go_wp2
 refine bodyPost_ret (v := assV ⟨0, 0, 0, 0, false⟩ 2) (by simp [results, Try.results25, go_sem, assV, u0, u1, v0, v1]) rfl ⟨rfl, bl⟩
theorem passume_true (op k a b c d x0 x1 y0 y1 : Int) (p : Bool) (f : Nat) (w : World) (C : ∀ w, Hid (Calls Try.prog 45 #[.int .i64 k] w (CompOut [(op, fnV f)] w))) (A : Are2 k a b c d true)
   (eg : ∀ args w, (callFunc f args).run Try.prog w = .ok (.enter f args) w) (F : ∀ w, Hid (Calls Try.prog f #[.agg #[.int .i64 a, .int .i64 b], .agg #[.int .i64 c, .int .i64 d]] w fun e w' => e = .returned (.tuple #[.agg #[.int .i64 x0, .int .i64 x1], .agg #[.int .i64 y0, .int .i64 y1], .bool p]) ∧ Below w.heap.size w w')) :
   Calls Try.prog 25 #[.int .i64 op, .int .i64 k, .agg #[.int .i64 a, .int .i64 b], .agg #[.int .i64 c, .int .i64 d], .bool true] w fun e w' => e = .returned (assV ⟨x0, x1, y0, y1, p⟩ 0) ∧ Below w.heap.size w w' := by
 have A := Lib.hid A
 have q0 := run_eql_nil
 have q1 := run_eql_fn
 go_enter Try.func25, Try.ntmps25
 go_wp2_with fail
 have I := narIn w a b c d
 generalize ((((w.alloc (.cells #[.int .i64 a, .int .i64 b] 23)).alloc (.cells #[.int .i64 c, .int .i64 d] 23)).alloc (.cells #[.int .i64 0, .int .i64 0] 23)).alloc (.cells #[.int .i64 0, .int .i64 0] 23)) = W at *
 refine (C _).out.mono ?_
 rintro e w1 ⟨m, rfl, hb, hM⟩
 have M := Lib.hid (hM _ (List.mem_singleton.2 rfl))
 have L := M.out w1 (Below.refl _ _)
 dsimp only [fnV] at L
 have I := I.later hb
 clear hM hb C
 have J := Lib.hid I
 obtain ⟨a0, a1, b0, b1, u0, u1, v0, v1, fx0, fx1, fy0, fy1, sz, bl⟩ := I
 go_wp2_with fail
 refine (A.out _ _ _ (by simp) (by omega) ⟨by go_simp, by go_simp⟩ ⟨by go_simp, by go_simp⟩).mono ?_
 clear a0 a1 b0 b1 u0 u1 v0 v1 fx0 fx1 fy0 fy1 sz bl L
 rintro e w2 ⟨rfl, hb⟩
 have I := J.out.later (((Below.refl _ _).alloc (Nat.le_refl _) _).trans (hb.mono (by simp)))
 have L := M.out w2 (((Below.refl _ _).alloc (Nat.le_refl _) _).trans (hb.mono (by simp)))
 dsimp only [fnV] at L
 clear J hb M
 have J := Lib.hid I
 obtain ⟨a0, a1, b0, b1, u0, u1, v0, v1, fx0, fx1, fy0, fy1, sz, bl⟩ := I
 go_wp2_with fail
 refine (F _).out.mono ?_
 clear a0 a1 b0 b1 u0 u1 v0 v1 fx0 fx1 fy0 fy1 sz bl L
 rintro e w3 ⟨rfl, hb⟩
 have I := J.out.later hb
 clear J hb
 obtain ⟨a0, a1, b0, b1, u0, u1, v0, v1, fx0, fx1, fy0, fy1, sz, bl⟩ := I
 go_wp2
 go_region
 go_wp2
 refine bodyPost_ret (v := assV ⟨x0, x1, y0, y1, p⟩ 0) (by simp [results, Try.results25, go_sem, assV, u0, u1, v0, v1]) rfl ⟨rfl, ?_⟩
 repeat (first | exact bl | refine Below.drew ?_ | refine Below.setCell ?_ (by simp; try omega) _)
theorem passume_false (op op' k a b c d x0 x1 y0 y1 : Int) (p : Bool) (f g : Nat) (w : World) (P : ∀ w, Hid (Calls Try.prog 46 #[.int .i64 op] w fun e w' => e = .returned (.int .i64 op') ∧ w = w')) (C : ∀ w, Hid (Calls Try.prog 45 #[.int .i64 k] w (CompOut [(op, fnV g), (op', fnV f)] w))) (A : Are2 k a b c d true)
   (eg : ∀ args w, (callFunc f args).run Try.prog w = .ok (.enter f args) w) (F : ∀ w, Hid (Calls Try.prog f #[.agg #[.int .i64 a, .int .i64 b], .agg #[.int .i64 c, .int .i64 d]] w fun e w' => e = .returned (.tuple #[.agg #[.int .i64 x0, .int .i64 x1], .agg #[.int .i64 y0, .int .i64 y1], .bool p]) ∧ Below w.heap.size w w')) :
   Calls Try.prog 25 #[.int .i64 op, .int .i64 k, .agg #[.int .i64 a, .int .i64 b], .agg #[.int .i64 c, .int .i64 d], .bool false] w fun e w' => e = .returned (assV ⟨x0, x1, y0, y1, p⟩ 0) ∧ Below w.heap.size w w' := by
 have A := Lib.hid A
 have q0 := run_eql_nil
 have q1 := run_eql_fn
 go_enter Try.func25, Try.ntmps25
 go_wp2_with fail
 have I := narIn w a b c d
 generalize ((((w.alloc (.cells #[.int .i64 a, .int .i64 b] 23)).alloc (.cells #[.int .i64 c, .int .i64 d] 23)).alloc (.cells #[.int .i64 0, .int .i64 0] 23)).alloc (.cells #[.int .i64 0, .int .i64 0] 23)) = W at *
 refine (C _).out.mono ?_
 rintro e w1 ⟨m, rfl, hb, hM⟩
 have M := Lib.hid (hM (op', fnV f) (by simp))
 have L := hM (op, fnV g) (by simp) w1 (Below.refl _ _)
 dsimp only [fnV] at L
 have I := I.later hb
 clear hM hb C
 have J := Lib.hid I
 obtain ⟨a0, a1, b0, b1, u0, u1, v0, v1, fx0, fx1, fy0, fy1, sz, bl⟩ := I
 go_wp2_with fail
 refine (A.out _ _ _ (by simp) (by omega) ⟨by go_simp, by go_simp⟩ ⟨by go_simp, by go_simp⟩).mono ?_
 clear a0 a1 b0 b1 u0 u1 v0 v1 fx0 fx1 fy0 fy1 sz bl L
 rintro e w2 ⟨rfl, hb⟩
 have I := J.out.later (((Below.refl _ _).alloc (Nat.le_refl _) _).trans (hb.mono (by simp)))
 have L := M.out w2 (((Below.refl _ _).alloc (Nat.le_refl _) _).trans (hb.mono (by simp)))
 dsimp only [fnV] at L
 clear J hb M
 have J := Lib.hid I
 obtain ⟨a0, a1, b0, b1, u0, u1, v0, v1, fx0, fx1, fy0, fy1, sz, bl⟩ := I
 go_wp2_with (go_at_call 46; refine (P _).out.mono ?_; rintro eo wo ⟨rfl, rfl⟩)
 refine (F _).out.mono ?_
 clear a0 a1 b0 b1 u0 u1 v0 v1 fx0 fx1 fy0 fy1 sz bl L
 rintro e w3 ⟨rfl, hb⟩
 have I := J.out.later hb
 clear J hb
 obtain ⟨a0, a1, b0, b1, u0, u1, v0, v1, fx0, fx1, fy0, fy1, sz, bl⟩ := I
 go_wp2
 go_region
 go_wp2
 refine bodyPost_ret (v := assV ⟨x0, x1, y0, y1, p⟩ 0) (by simp [results, Try.results25, go_sem, assV, u0, u1, v0, v1]) rfl ⟨rfl, ?_⟩
 repeat (first | exact bl | refine Below.drew ?_ | refine Below.setCell ?_ (by simp; try omega) _)
end Go.Proofs.Ytgkhldbnljdeiaa
namespace Go.Proofs.Ytgkhldbnljdeiaa
open Go.RowKit Go.MapKept
theorem zero_nar (w : World) : (zeroValue 88).run Try.prog w = .ok .nilFunc w := by kernel_rfl
/-- What the map of comparisons answers. -/
def narV (k op : Int) : Value :=
 if (k = 1 ∨ k = 2 ∨ k = 3) ∧ op = 11 then fnV 71 else if (k = 1 ∨ k = 2 ∨ k = 3) ∧ op = 12 then fnV 72
 else if (k = 1 ∨ k = 2) ∧ op = 13 then fnV 73 else if (k = 1 ∨ k = 2) ∧ op = 14 then fnV 75
 else if (k = 1 ∨ k = 2) ∧ op = 15 then fnV 76 else if (k = 1 ∨ k = 2) ∧ op = 16 then fnV 77 else .nilFunc
theorem asks_of {b c : Nat} {es : Array MapEntry} {w : World} {op : Int} {v : Value} (hb : w.heap[b]? = some (.map es c)) (hl : b < w.heap.size)
   (hn : (∃ i, Instr.findNow (.int .i64) (.int .i64 op) es.toList 0 = some (some (i, v))) ∨ (Instr.findNow (.int .i64) (.int .i64 op) es.toList 0 = some none ∧ v = .nilFunc)) : Asks (.map (some b)) w op v := by
 intro w2 hB
 have h2 : w2.heap[b]? = some (.map es c) := (hB.block b hl).trans hb
 rcases hn with ⟨i, hn⟩ | ⟨hn, rfl⟩
 · exact run_look Try.underlying85 Try.underlying3 h2 hn false
 · exact run_look_none Try.underlying85 Try.underlying3 h2 hn (zero_nar w2) false
theorem find6 (f0 f1 f2 f3 f4 f5 : Value) (op : Int) :
   Instr.findNow (.int .i64) (.int .i64 op) (#[⟨.int .i64 11, f0, 0⟩, ⟨.int .i64 12, f1, 1⟩, ⟨.int .i64 13, f2, 2⟩, ⟨.int .i64 14, f3, 3⟩, ⟨.int .i64 15, f4, 4⟩, ⟨.int .i64 16, f5, 5⟩] : Array MapEntry).toList 0 =
     if op = 11 then some (some (0, f0)) else if op = 12 then some (some (1, f1)) else if op = 13 then some (some (2, f2)) else if op = 14 then some (some (3, f3)) else if op = 15 then some (some (4, f4)) else if op = 16 then some (some (5, f5)) else some none := by
 simp only [Instr.findNow, Instr.sameNow, if_true]
 by_cases h0 : op = 11
 · subst h0; rfl
 by_cases h1 : op = 12
 · subst h1; rfl
 by_cases h2 : op = 13
 · subst h2; rfl
 by_cases h3 : op = 14
 · subst h3; rfl
 by_cases h4 : op = 15
 · subst h4; rfl
 by_cases h5 : op = 16
 · subst h5; rfl
 have e0 : (op == 11) = false := by simpa using h0
 have e1 : (op == 12) = false := by simpa using h1
 have e2 : (op == 13) = false := by simpa using h2
 have e3 : (op == 14) = false := by simpa using h3
 have e4 : (op == 15) = false := by simpa using h4
 have e5 : (op == 16) = false := by simpa using h5
 rw [if_neg h0, if_neg h1, if_neg h2, if_neg h3, if_neg h4, if_neg h5, e0, e1, e2, e3, e4, e5]
theorem find2 (f0 f1 : Value) (op : Int) :
   Instr.findNow (.int .i64) (.int .i64 op) (#[⟨.int .i64 11, f0, 0⟩, ⟨.int .i64 12, f1, 1⟩] : Array MapEntry).toList 0 =
     if op = 11 then some (some (0, f0)) else if op = 12 then some (some (1, f1)) else some none := by
 simp only [Instr.findNow, Instr.sameNow, if_true]
 by_cases h0 : op = 11
 · subst h0; rfl
 by_cases h1 : op = 12
 · subst h1; rfl
 have e0 : (op == 11) = false := by simpa using h0
 have e1 : (op == 12) = false := by simpa using h1
 rw [if_neg h0, if_neg h1, e0, e1]
theorem pcomp_any (k : Int) (ops : List Int) (w : World) : Calls Try.prog 45 #[.int .i64 k] w (CompOut (ops.map fun op => (op, narV k op)) w) := by
 have H6 : ∀ k', (k' = 1 ∨ k' = 2) → ∀ op, (∃ i, Instr.findNow (.int .i64) (.int .i64 op) (#[⟨.int .i64 11, fnV 71, 0⟩, ⟨.int .i64 12, fnV 72, 1⟩, ⟨.int .i64 13, fnV 73, 2⟩, ⟨.int .i64 14, fnV 75, 3⟩, ⟨.int .i64 15, fnV 76, 4⟩, ⟨.int .i64 16, fnV 77, 5⟩] : Array MapEntry).toList 0 = some (some (i, narV k' op))) ∨ (Instr.findNow (.int .i64) (.int .i64 op) (#[⟨.int .i64 11, fnV 71, 0⟩, ⟨.int .i64 12, fnV 72, 1⟩, ⟨.int .i64 13, fnV 73, 2⟩, ⟨.int .i64 14, fnV 75, 3⟩, ⟨.int .i64 15, fnV 76, 4⟩, ⟨.int .i64 16, fnV 77, 5⟩] : Array MapEntry).toList 0 = some none ∧ narV k' op = .nilFunc) := by
   intro k' hk op
   rw [find6]
   have hk3 : k' = 1 ∨ k' = 2 ∨ k' = 3 := by omega
   unfold narV
   simp only [hk, hk3, true_and]
   by_cases h0 : op = 11
   · exact .inl ⟨0, by rw [if_pos h0, if_pos h0]⟩
   by_cases h1 : op = 12
   · exact .inl ⟨1, by rw [if_neg h0, if_neg h0, if_pos h1, if_pos h1]⟩
   by_cases h2 : op = 13
   · exact .inl ⟨2, by rw [if_neg h0, if_neg h0, if_neg h1, if_neg h1, if_pos h2, if_pos h2]⟩
   by_cases h3 : op = 14
   · exact .inl ⟨3, by rw [if_neg h0, if_neg h0, if_neg h1, if_neg h1, if_neg h2, if_neg h2, if_pos h3, if_pos h3]⟩
   by_cases h4 : op = 15
   · exact .inl ⟨4, by rw [if_neg h0, if_neg h0, if_neg h1, if_neg h1, if_neg h2, if_neg h2, if_neg h3, if_neg h3, if_pos h4, if_pos h4]⟩
   by_cases h5 : op = 16
   · exact .inl ⟨5, by rw [if_neg h0, if_neg h0, if_neg h1, if_neg h1, if_neg h2, if_neg h2, if_neg h3, if_neg h3, if_neg h4, if_neg h4, if_pos h5, if_pos h5]⟩
   · exact .inr ⟨by rw [if_neg h0, if_neg h1, if_neg h2, if_neg h3, if_neg h4, if_neg h5], by rw [if_neg h0, if_neg h1, if_neg h2, if_neg h3, if_neg h4, if_neg h5]⟩
 rcases kind_cases k with rfl | rfl | rfl | ⟨k1, k2, k3⟩
 · refine (pcomparisons_1 w).mono ?_
   rintro e w' ⟨b, rfl, hb, _, hl, hB⟩
   refine ⟨_, rfl, hB, ?_⟩
   intro p hp
   obtain ⟨op, _, rfl⟩ := List.mem_map.1 hp
   exact asks_of hb hl (H6 1 (.inl rfl) op)
 · refine (pcomparisons_2 w).mono ?_
   rintro e w' ⟨b, rfl, hb, _, hl, hB⟩
   refine ⟨_, rfl, hB, ?_⟩
   intro p hp
   obtain ⟨op, _, rfl⟩ := List.mem_map.1 hp
   exact asks_of hb hl (H6 2 (.inr rfl) op)
 · refine (pcomparisons_3 w).mono ?_
   rintro e w' ⟨b, rfl, hb, _, hl, hB⟩
   refine ⟨_, rfl, hB, ?_⟩
   intro p hp
   obtain ⟨op, _, rfl⟩ := List.mem_map.1 hp
   refine asks_of hb hl ?_
   rw [find2]
   show (∃ i, _ = some (some (i, narV 3 op))) ∨ (_ ∧ narV 3 op = .nilFunc)
   by_cases h0 : op = 11
   · exact .inl ⟨0, by simp [narV, h0, fnV]⟩
   by_cases h1 : op = 12
   · exact .inl ⟨1, by simp [narV, h1, fnV]⟩
   · exact .inr ⟨by simp [h0, h1], by simp [narV, h0, h1]⟩
 · refine (pcomparisons_no k k1 k2 k3 w).mono ?_
   rintro e w' ⟨rfl, rfl⟩
   refine ⟨_, rfl, Below.refl _ _, ?_⟩
   intro p hp
   obtain ⟨op, _, rfl⟩ := List.mem_map.1 hp
   intro w2 _
   have e : narV k op = .nilFunc := by
     simp only [beq_eq_false_iff_ne] at k1 k2 k3
     simp [narV, k1, k2, k3]
   show (Instr.lookup _ _ _ _).run _ _ = .ok (narV k op) w2
   rw [e]
   exact run_look_nil Try.underlying85 Try.underlying3 (zero_nar w2) false
end Go.Proofs.Ytgkhldbnljdeiaa
namespace Go.Proofs.Ytgkhldbnljdeiaa
open Go.RowKit RangesMath
def Enters (f : Nat) : Prop := ∀ args w, (callFunc f args).run Try.prog w = .ok (.enter f args) w
theorem ent_equal : Enters 71 := fun _ _ => by kernel_rfl
theorem ent_unequal : Enters 72 := fun _ _ => by kernel_rfl
theorem ent_c1 : Enters 73 := fun _ _ => by kernel_rfl
theorem ent_c2 : Enters 75 := fun _ _ => by kernel_rfl
theorem ent_c3 : Enters 76 := fun _ _ => by kernel_rfl
theorem ent_c4 : Enters 77 := fun _ _ => by kernel_rfl
/-- A comparison that a kind has is answered by a function that narrows by it. -/
def cmpOK (k op : Int) : Bool := decide (11 ≤ op ∧ op ≤ 16) && fits2 op k
theorem nar_ok {k op : Int} (h : cmpOK k op = true) : ∃ f, narV k op = fnV f ∧ Enters f ∧ NarOut f op := by
 simp only [cmpOK, fits2, Bool.and_eq_true, decide_eq_true_eq] at h
 obtain ⟨⟨h1, h2⟩, h3⟩ := h
 unfold narV
 by_cases h0 : op = 11
 · subst h0
   rw [if_pos ⟨by omega, rfl⟩]; exact ⟨_, rfl, ent_equal, pequal_nar⟩
 by_cases h1 : op = 12
 · subst h1
   rw [if_neg (by omega), if_pos ⟨by omega, rfl⟩]; exact ⟨_, rfl, ent_unequal, punequal_nar⟩
 have hk : k = 1 ∨ k = 2 := by omega
 by_cases h2 : op = 13
 · subst h2
   rw [if_neg (by omega), if_neg (by omega), if_pos ⟨hk, rfl⟩]; exact ⟨_, rfl, ent_c1, pcmp1_nar⟩
 by_cases h3 : op = 14
 · subst h3
   rw [if_neg (by omega), if_neg (by omega), if_neg (by omega), if_pos ⟨hk, rfl⟩]; exact ⟨_, rfl, ent_c2, pcmp2_nar⟩
 by_cases h4 : op = 15
 · subst h4
   rw [if_neg (by omega), if_neg (by omega), if_neg (by omega), if_neg (by omega), if_pos ⟨hk, rfl⟩]; exact ⟨_, rfl, ent_c3, pcmp3_nar⟩
 obtain rfl : op = 16 := by omega
 rw [if_neg (by omega), if_neg (by omega), if_neg (by omega), if_neg (by omega), if_neg (by omega), if_pos ⟨hk, rfl⟩]; exact ⟨_, rfl, ent_c4, pcmp4_nar⟩
theorem nar_no {k op : Int} (h : cmpOK k op = false) : narV k op = .nilFunc := by
 simp only [cmpOK, fits2, Bool.and_eq_false_iff, decide_eq_false_iff_not] at h
 unfold narV
 rw [if_neg (by omega), if_neg (by omega), if_neg (by omega), if_neg (by omega), if_neg (by omega), if_neg (by omega)]
theorem cmpOK_opp {k op : Int} (h : cmpOK k op = true) : cmpOK k (oppS op) = true := by
 simp only [cmpOK, fits2, Bool.and_eq_true, decide_eq_true_eq] at h ⊢
 unfold oppS
 split
 · omega
 split
 · omega
 split
 · omega
 split
 · omega
 split <;> omega
theorem ok64_of {k a b : Int} (h : okB k a b = true) : Ok64 a b := check_ok64 (by simpa [okB] using h)
theorem passume_spec : AssSpec 25 := by
 intro op k a b c d r _ _ _ _ w
 refine Lib.hid ?_
 have eOK : assOK op k a b c d = (cmpOK k op && okB k a b && okB k c d) := rfl
 unfold assR
 rw [eOK]
 cases hc : cmpOK k op with
 | false =>
   refine passume_nil op k a b c d r w (fun w => Lib.hid ?_)
   have C := pcomp_any k [op] w
   simp only [List.map_cons, List.map_nil, nar_no hc] at C
   exact C
 | true =>
   obtain ⟨f, ef, hent, hn⟩ := nar_ok hc
   have A := are2_any k a b c d
   cases h1 : okB k a b && okB k c d with
   | false =>
     rw [Bool.true_and, h1]
     rw [h1] at A
     refine passume_bad op k a b c d r f w (fun w => Lib.hid ?_) A
     have C := pcomp_any k [op] w
     simp only [List.map_cons, List.map_nil, ef] at C
     exact C
   | true =>
     rw [Bool.true_and, h1]
     rw [h1] at A
     simp only [Bool.and_eq_true] at h1
     have g1 := ok64_of h1.1
     have g2 := ok64_of h1.2
     cases r with
     | true =>
       refine passume_true op k a b c d _ _ _ _ _ f w (fun w => Lib.hid ?_) A hent (fun w => Lib.hid (hn a b c d w g1 g2))
       have C := pcomp_any k [op] w
       simp only [List.map_cons, List.map_nil, ef] at C
       exact C
     | false =>
       obtain ⟨f', ef', hent', hn'⟩ := nar_ok (cmpOK_opp hc)
       have hop : 11 ≤ op ∧ op ≤ 16 := by
         simp only [cmpOK, Bool.and_eq_true, decide_eq_true_eq] at hc
         exact hc.1
       refine passume_false op (oppS op) k a b c d _ _ _ _ _ f' f w (fun w => Lib.hid (popposite_any op w hop.1 hop.2)) (fun w => Lib.hid ?_) A hent' (fun w => Lib.hid (hn' a b c d w g1 g2))
       have C := pcomp_any k [op, oppS op] w
       simp only [List.map_cons, List.map_nil, ef, ef'] at C
       exact C
end Go.Proofs.Ytgkhldbnljdeiaa
